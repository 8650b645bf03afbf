package record_test

import (
	"fmt"
	"math/rand"
	"reflect"
	"slices"
	"strings"
	"testing"

	"beadlayer/api"
	"beadlayer/record"
)

const (
	least    = -1 << 63
	greatest = 1<<63 - 1
	last     = api.End - 1
)

func begin(printer, job string, n int) api.Note {
	return api.Note{Kind: api.NoteBegin, Printer: printer, Job: job, N: n}
}

func layer(printer string, n int) api.Note {
	return api.Note{Kind: api.NoteLayer, Printer: printer, N: n}
}

func end(printer string) api.Note { return api.Note{Kind: api.NoteEnd, Printer: printer} }

func fail(printer string) api.Note { return api.Note{Kind: api.NoteFail, Printer: printer} }

func load(printer, spool string, n int) api.Note {
	return api.Note{Kind: api.NoteLoad, Printer: printer, Spool: spool, N: n}
}

func use(printer string, n int) api.Note {
	return api.Note{Kind: api.NoteUse, Printer: printer, N: n}
}

func undo(of string, other int) api.Note {
	return api.Note{Kind: api.NoteUndo, Of: of, Other: other}
}

// by is a note that a station wrote down.
func by(station string, no, at int, x api.Note) api.Note {
	x.Station, x.No, x.At = station, no, at
	return x
}

func notes(n ...api.Note) []api.Note { return n }

// series are notes of the station a, from the number 1 on, at 10, 20, 30 ..
func series(n ...api.Note) []api.Note {
	for i := range n {
		n[i] = by("a", i+1, 10*(i+1), n[i])
	}
	return n
}

// many are so many notes of the station m, a millisecond after each other.
func many(count int) []api.Note {
	var n []api.Note
	for i := range count {
		n = append(n, by("m", i+1, i, use("p", 1)))
	}
	return n
}

func list(n ...int) []int { return n }

func whys(e ...api.Errno) []api.Errno { return e }

// pairs have names and values, in turn.
func pairs(s ...string) []api.Pair {
	var l []api.Pair
	for i := 0; i < len(s); i += 2 {
		l = append(l, api.Pair{Name: s[i], Value: s[i+1]})
	}
	return l
}

// sample has all kinds of notes of two stations: its jobs are done, have failed and run, and one note is refused.
func sample() []api.Note {
	return notes(
		by("a", 1, 5, load("p", "s", 100)), by("a", 2, 10, begin("p", "j", 2)), by("a", 3, 20, layer("p", 1)), by("b", 1, 25, use("p", 30)),
		by("a", 4, 40, layer("p", 2)), by("a", 5, 41, end("p")), by("b", 2, 41, begin("q", "k", 3)), by("b", 3, 50, layer("q", 2)), by("b", 4, 60, fail("q")),
		by("b", 5, 70, begin("q", "l", 4)), by("a", 6, 71, fail("q")), by("b", 6, 80, undo("a", 6)), by("a", 7, 90, layer("q", 1)),
	)
}

// notKeys are strings that are no keys.
func notKeys() []string {
	return []string{"", "A", "1", "-a", "_", "a b", " a", "a ", "a.", "ä", "a\n", "a\x00", "\xff", strings.Repeat("a", api.MaxName+1)}
}

func randomKey(r *rand.Rand, keys string) string {
	i := r.Intn(len(keys))
	return keys[i : i+1]
}

// randomNote is one of few printers, jobs and spools. Mostly the number of its layer follows.
func randomNote(r *rand.Rand, layers map[string]int) api.Note {
	printer := randomKey(r, "pq")
	switch r.Intn(13) {
	case 0, 1:
		layers[printer] = 0
		return begin(printer, randomKey(r, "jklmn"), 1+r.Intn(3)*r.Intn(2))
	case 2, 3, 4:
		if r.Intn(4) > 0 {
			layers[printer]++
			return layer(printer, layers[printer])
		}
		return layer(printer, 1+r.Intn(4))
	case 5, 6:
		return end(printer)
	case 7:
		return fail(printer)
	case 8, 9:
		return load(printer, randomKey(r, "stu"), 1+r.Intn(20))
	case 10, 11:
		return use(printer, 1+r.Intn(9))
	}
	return undo(randomKey(r, "abc"), 1+r.Intn(9))
}

// randomNotes are valid notes of three stations.
func randomNotes(r *rand.Rand) []api.Note {
	var n []api.Note
	layers, numbers := make(map[string]int), make(map[string]int)
	for at := r.Intn(4); r.Intn(30) > 0; at += r.Intn(4) {
		station := randomKey(r, "abc")
		numbers[station]++
		n = append(n, by(station, numbers[station], at, randomNote(r, layers)))
	}
	slices.SortFunc(n, inOrder)
	return n
}

// inOrder is the order of notes: by At, then Station, then No.
func inOrder(a, b api.Note) int {
	switch {
	case a.At != b.At:
		return a.At - b.At
	case a.Station != b.Station:
		return strings.Compare(a.Station, b.Station)
	}
	return a.No - b.No
}

func isZero(value any) bool {
	v := reflect.ValueOf(value)
	if v.Kind() == reflect.Slice {
		return v.Len() == 0
	}
	return v.IsZero()
}

// shown is the beginning of a value as text.
func shown(value any) string {
	s := fmt.Sprint(value)
	return s[:min(200, len(s))]
}

// call is a function of the package, with all its arguments.
type call struct {
	name string
	run  func() ([]any, api.Errno)
}

// fails checks that calls return an error, and zero values with it.
func fails(t *testing.T, name any, e api.Errno, calls ...call) {
	t.Helper()
	for _, f := range calls {
		results, got := f.run()
		if got != e || slices.ContainsFunc(results, func(x any) bool { return !isZero(x) }) {
			t.Error(shown(name), f.name, shown(results), got, "not", e)
		}
	}
}

func checkNotes(n []api.Note) call {
	return call{"CheckNotes", func() ([]any, api.Errno) { return nil, record.CheckNotes(n) }}
}

func merge(a, b []api.Note) call {
	return call{"Merge", func() ([]any, api.Errno) { l, e := record.Merge(a, b); return []any{l}, e }}
}

func write(n []api.Note, x api.Note) call {
	return call{"Write", func() ([]any, api.Errno) { l, e := record.Write(n, x); return []any{l}, e }}
}

func console(n []api.Note, text string) call {
	return call{"Console", func() ([]any, api.Errno) { s, e := record.Console(n, text); return []any{s}, e }}
}

func text(n []api.Note) call {
	return call{"Text", func() ([]any, api.Errno) { s, e := record.Text(n); return []any{s}, e }}
}

func read(s string) call {
	return call{"Read", func() ([]any, api.Errno) { l, i, e := record.Read(s); return []any{l, i}, e }}
}

func progress(n []api.Note, job string, at int) call {
	return call{"Progress", func() ([]any, api.Errno) { i, k, e := record.Progress(n, job, at); return []any{i, k}, e }}
}

func used(n []api.Note, spool string, at int) call {
	return call{"Used", func() ([]any, api.Errno) { i, e := record.Used(n, spool, at); return []any{i}, e }}
}

func pace(n []api.Note, job string, at int) call {
	return call{"Pace", func() ([]any, api.Errno) { f, ok, e := record.Pace(n, job, at); return []any{f, ok}, e }}
}

func failed(n []api.Note, at int) call {
	return call{"Failed", func() ([]any, api.Errno) { f, e := record.Failed(n, at); return []any{f}, e }}
}

func done(n []api.Note, w api.Window) call {
	return call{"Done", func() ([]any, api.Errno) { l, e := record.Done(n, w); return []any{l}, e }}
}

// withMoment are the functions with notes and a moment; name is that of a job and of a spool.
func withMoment(n []api.Note, name string, at int) []call {
	return []call{
		{"Counting", func() ([]any, api.Errno) { l, e := record.Counting(n, at); return []any{l}, e }},
		{"Refused", func() ([]any, api.Errno) { l, w, e := record.Refused(n, at); return []any{l, w}, e }},
		{"Running", func() ([]any, api.Errno) { l, e := record.Running(n, at); return []any{l}, e }},
		{"Jobs", func() ([]any, api.Errno) { l, e := record.Jobs(n, at); return []any{l}, e }},
		{"Filament", func() ([]any, api.Errno) { l, e := record.Filament(n, at); return []any{l}, e }},
		progress(n, name, at), used(n, name, at), pace(n, name, at), failed(n, at),
	}
}

// withNotes are all functions with notes.
func withNotes(n []api.Note, name string, at int, w api.Window, x api.Note, lines string) []call {
	return append(withMoment(n, name, at), checkNotes(n), merge(n, nil), merge(nil, n), write(n, x), done(n, w), console(n, lines), text(n))
}
