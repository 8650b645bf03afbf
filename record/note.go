package record

import (
	"cmp"
	"strings"

	"beadlayer/api"
	"beadlayer/terms"
)

// mark is what a note is known by: its station, and its number there.
type mark struct {
	station string
	no      int
}

func markOf(x api.Note) mark {
	return mark{x.Station, x.No}
}

// aimOf is the mark of the note at which a NoteUndo aims.
func aimOf(undo api.Note) mark {
	return mark{undo.Of, undo.Other}
}

// compared puts notes in order: by At, then Station, then No.
func compared(a, b api.Note) int {
	return cmp.Or(cmp.Compare(a.At, b.At), strings.Compare(a.Station, b.Station), cmp.Compare(a.No, b.No))
}

// names are the keys that a note has by its kind, in the order in which its text tells them.
func names(x *api.Note) []*string {
	switch x.Kind {
	case api.NoteBegin:
		return []*string{&x.Printer, &x.Job}
	case api.NoteLoad:
		return []*string{&x.Printer, &x.Spool}
	case api.NoteUndo:
		return []*string{&x.Of}
	}
	return []*string{&x.Printer}
}

// numbers are the numbers that a note has by its kind, and how great they are at most. Its text tells them after its keys.
func numbers(x *api.Note) ([]*int, int) {
	switch x.Kind {
	case api.NoteBegin, api.NoteLayer:
		return []*int{&x.N}, api.MaxLayers
	case api.NoteLoad, api.NoteUse:
		return []*int{&x.N}, api.MaxFlow
	case api.NoteUndo:
		return []*int{&x.Other}, api.MaxNo
	}
	return nil, 0
}

func hasKeys(x api.Note) bool {
	for _, field := range names(&x) {
		if !terms.IsKey(*field) {
			return false
		}
	}
	return true
}

func hasNumbers(x api.Note) bool {
	fields, most := numbers(&x)
	for _, field := range fields {
		if !terms.Within(*field, 1, most) {
			return false
		}
	}
	return true
}

// hasUnused reports whether a note has a field that its kind does not use, and that is not zero.
func hasUnused(x api.Note) bool {
	for _, field := range names(&x) {
		*field = ""
	}
	fields, _ := numbers(&x)
	for _, field := range fields {
		*field = 0
	}
	return x != api.Note{Station: x.Station, No: x.No, At: x.At, Kind: x.Kind}
}

// checkNote returns the error of a note that is not well formed.
func checkNote(x api.Note) api.Errno {
	switch {
	case !terms.IsKey(x.Station):
		return api.ErrName
	case !terms.Within(x.No, 1, api.MaxNo) || !terms.IsMoment(x.At):
		return api.ErrArg
	case !terms.Within(x.Kind, api.NoteBegin, api.NoteUndo):
		return api.ErrKind
	case !hasKeys(x):
		return api.ErrName
	case !hasNumbers(x):
		return api.ErrArg
	case hasUnused(x):
		return api.ErrForm
	}
	return api.OK
}
