package record

import (
	"strconv"
	"strings"

	"beadlayer/api"
	"beadlayer/terms"
)

// console answers lines at a moment: now is the book at it.
type console struct {
	notes []api.Note
	now   *book
}

// Console answers a string line by line.
func Console(n []api.Note, text string) (string, api.Errno) {
	if e := CheckNotes(n); e != api.OK {
		return "", e
	}
	if len(text) > api.MaxScript {
		return "", api.ErrLarge
	}
	c := console{notes: n, now: bookOf(n, 0)}
	var all strings.Builder
	_, e := terms.Lines(text, func(line string) bool {
		answer, e := c.answer(line)
		if e != api.OK {
			answer = "error " + strconv.Itoa(int(e)) + "\n"
		}
		all.WriteString(answer)
		return true
	})
	if e != api.OK {
		return "", e
	}
	return all.String(), api.OK
}

// answer is what a line is answered with: lines, each one ended by a line feed.
func (c *console) answer(line string) (string, api.Errno) {
	command, name, named := strings.Cut(line, " ")
	if !named {
		return c.list(command)
	}
	if name == "" || strings.Contains(name, " ") {
		return "", api.ErrSyntax
	}
	told, e := c.tell(command, name)
	return told + "\n", e
}

// list answers a command that is alone.
func (c *console) list(command string) (string, api.Errno) {
	var list []api.Pair
	switch command {
	case "running":
		list = c.now.runningPairs()
	case "jobs":
		list = c.now.jobPairs()
	case "filament":
		list = c.now.filamentPairs()
	default:
		return "", api.ErrSyntax
	}
	var text strings.Builder
	for _, p := range list {
		text.WriteString(p.Name + " " + p.Value + "\n")
	}
	return text.String(), api.OK
}

// tell answers a command with a name.
func (c *console) tell(command, name string) (string, api.Errno) {
	switch command {
	case "at":
		return "ok", c.move(name)
	case "job":
		printed, layers, e := c.now.progress(name)
		return strconv.Itoa(printed) + "/" + strconv.Itoa(layers), e
	case "pace":
		pace, is, e := c.now.pace(name)
		if !is {
			return "none", e
		}
		return strconv.Itoa(pace.Num) + "/" + strconv.Itoa(pace.Den), e
	case "used":
		used, e := c.now.used(name)
		return strconv.Itoa(used), e
	}
	return "", api.ErrSyntax
}

// move takes another moment.
func (c *console) move(number string) api.Errno {
	at, is := terms.Number(number)
	if !is {
		return api.ErrSyntax
	}
	if !terms.IsMoment(at) {
		return api.ErrArg
	}
	c.now = bookOf(c.notes, at)
	return api.OK
}
