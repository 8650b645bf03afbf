package flow

import (
	"slices"
	"strconv"
	"strings"

	"beadlayer/api"
	"beadlayer/terms"
)

// checkTold validates draws as far as that can be done without spools. They can be in any order.
func checkTold(d []api.Draw) api.Errno {
	if len(d) > api.MaxBeads {
		return api.ErrLarge
	}
	for _, draw := range d {
		if e := checkDraw(draw, terms.IsKey, api.ErrName); e != api.OK {
			return e
		}
	}
	return api.OK
}

// Text writes draws.
func Text(d []api.Draw) (string, api.Errno) {
	if e := checkTold(d); e != api.OK {
		return "", e
	}
	var text strings.Builder
	for _, draw := range d {
		text.WriteString(strconv.Itoa(draw.At) + " " + draw.Spool + " " + strconv.Itoa(draw.Long) + "\n")
	}
	return terms.Bounded(text.String())
}

// Read reads draws.
func Read(text string) ([]api.Draw, int, api.Errno) {
	return terms.Read(text, readDraw, checkTold)
}

// readDraw is the draw that a line tells; false if it does not have the form.
func readDraw(line string) (api.Draw, bool) {
	words := strings.Split(line, " ")
	if len(words) != 3 || slices.Contains(words, "") {
		return api.Draw{}, false
	}
	at, isAt := terms.Number(words[0])
	long, isLong := terms.Number(words[2])
	return api.Draw{At: at, Spool: words[1], Long: long}, isAt && isLong
}
