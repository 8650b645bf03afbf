package record

import (
	"slices"
	"strconv"
	"strings"

	"beadlayer/api"
	"beadlayer/terms"
)

// word is the one that tells a kind of note.
func word(kind int) string {
	switch kind {
	case api.NoteBegin:
		return "begin"
	case api.NoteLayer:
		return "layer"
	case api.NoteEnd:
		return "end"
	case api.NoteFail:
		return "fail"
	case api.NoteLoad:
		return "load"
	case api.NoteUse:
		return "use"
	}
	return "undo"
}

// Text writes notes.
func Text(n []api.Note) (string, api.Errno) {
	if e := CheckNotes(n); e != api.OK {
		return "", e
	}
	var text strings.Builder
	for _, x := range n {
		text.WriteString(lineOf(x))
	}
	return terms.Bounded(text.String())
}

// lineOf is the text of a valid note.
func lineOf(x api.Note) string {
	words := []string{x.Station, strconv.Itoa(x.No), strconv.Itoa(x.At), word(x.Kind)}
	for _, field := range names(&x) {
		words = append(words, *field)
	}
	fields, _ := numbers(&x)
	for _, field := range fields {
		words = append(words, strconv.Itoa(*field))
	}
	return strings.Join(words, " ") + "\n"
}

// Read reads notes.
func Read(text string) ([]api.Note, int, api.Errno) {
	return terms.Read(text, readNote, CheckNotes)
}

// readNote is the note that a line tells; false if it does not have the form.
func readNote(line string) (api.Note, bool) {
	words := strings.Split(line, " ")
	if len(words) < 4 || slices.Contains(words, "") {
		return api.Note{}, false
	}
	head, areNumbers := terms.Numbers(words[1:3])
	kind, isKind := terms.Kind(words[3], api.NoteUndo, word)
	if !areNumbers || !isKind {
		return api.Note{}, false
	}
	x := api.Note{Station: words[0], No: head[0], At: head[1], Kind: kind}
	ok := readFields(&x, words[4:])
	return x, ok
}

// readFields gives a note the fields of its kind; false if words are not these.
func readFields(x *api.Note, words []string) bool {
	keys := names(x)
	fields, _ := numbers(x)
	if len(words) != len(keys)+len(fields) {
		return false
	}
	for i, key := range keys {
		*key = words[i]
	}
	values, ok := terms.Numbers(words[len(keys):])
	if !ok {
		return false
	}
	for i, field := range fields {
		*field = values[i]
	}
	return true
}
