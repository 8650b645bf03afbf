package farm

import (
	"slices"
	"strconv"
	"strings"

	"beadlayer/api"
	"beadlayer/terms"
)

// word is the one that tells a kind of event.
func word(kind int) string {
	switch kind {
	case api.EventStart:
		return "start"
	case api.EventDone:
		return "done"
	case api.EventFail:
		return "fail"
	case api.EventChange:
		return "change"
	case api.EventStop:
		return "stop"
	}
	return "serve"
}

// checkTold validates events as far as that can be done without printers.
func checkTold(l []api.Event) api.Errno {
	return checkList(l, func(string) bool { return true })
}

// Text writes events.
func Text(l []api.Event) (string, api.Errno) {
	if e := checkTold(l); e != api.OK {
		return "", e
	}
	var text strings.Builder
	for _, event := range l {
		text.WriteString(strconv.Itoa(event.At) + " " + event.Printer + " " + word(event.Kind))
		for _, field := range fields(&event) {
			text.WriteString(" " + *field)
		}
		text.WriteString("\n")
	}
	return terms.Bounded(text.String())
}

// Read reads events.
func Read(text string) ([]api.Event, int, api.Errno) {
	return terms.Read(text, readEvent, checkTold)
}

// readEvent is the event that a line tells; false if it does not have the form.
func readEvent(line string) (api.Event, bool) {
	words := strings.Split(line, " ")
	if len(words) < 3 || slices.Contains(words, "") {
		return api.Event{}, false
	}
	at, isAt := terms.Number(words[0])
	kind, isKind := terms.Kind(words[2], api.EventServe, word)
	event := api.Event{At: at, Kind: kind, Printer: words[1]}
	used, rest := fields(&event), words[3:]
	if !isAt || !isKind || len(rest) != len(used) {
		return api.Event{}, false
	}
	for i, field := range used {
		*field = rest[i]
	}
	return event, true
}
