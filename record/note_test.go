package record_test

import (
	"math/rand"
	"slices"
	"strings"
	"testing"

	"beadlayer/api"
	"beadlayer/record"
)

// wrongNotes are single notes with each error of a well formed one, and with several of them.
func wrongNotes() []struct {
	name string
	x    api.Note
	e    api.Errno
} {
	return []struct {
		name string
		x    api.Note
		e    api.Errno
	}{
		{"nothing", api.Note{}, api.ErrName},
		{"a station that is no key", by("A", 1, 5, end("p")), api.ErrName},
		{"no station, and all else wrong", by("", 0, -1, api.Note{Kind: 9}), api.ErrName},
		{"no number", by("a", 0, 5, end("p")), api.ErrArg},
		{"a number below 0", by("a", -1, 5, end("p")), api.ErrArg},
		{"a number that is too great", by("a", api.MaxNo+1, 5, end("p")), api.ErrArg},
		{"before all moments", by("a", 1, -1, end("p")), api.ErrArg},
		{"after all moments", by("a", 1, api.End, end("p")), api.ErrArg},
		{"no number, no kind", by("a", 0, 5, api.Note{Kind: 9}), api.ErrArg},
		{"no moment, no kind", by("a", 1, -1, api.Note{}), api.ErrArg},
		{"no moment, no printer", by("a", 1, -1, end("P")), api.ErrArg},
		{"no kind", by("a", 1, 5, api.Note{Printer: "p"}), api.ErrKind},
		{"the kind before all", by("a", 1, 5, api.Note{Kind: -1, Printer: "p"}), api.ErrKind},
		{"the kind after all", by("a", 1, 5, api.Note{Kind: api.NoteUndo + 1, Printer: "p"}), api.ErrKind},
		{"no kind, no printer, too much", by("a", 1, 5, api.Note{Kind: 8, Job: "j", Other: 1}), api.ErrKind},
		{"a begin without a printer", by("a", 1, 5, begin("", "j", 1)), api.ErrName},
		{"a begin without a job", by("a", 1, 5, begin("p", "", 1)), api.ErrName},
		{"a layer without a printer", by("a", 1, 5, layer("", 1)), api.ErrName},
		{"an end without a printer", by("a", 1, 5, end("")), api.ErrName},
		{"a failure without a printer", by("a", 1, 5, fail("")), api.ErrName},
		{"a load without a printer", by("a", 1, 5, load("", "s", 1)), api.ErrName},
		{"a load without a spool", by("a", 1, 5, load("p", "", 1)), api.ErrName},
		{"a use without a printer", by("a", 1, 5, use("", 1)), api.ErrName},
		{"an undo of no station", by("a", 1, 5, undo("", 1)), api.ErrName},
		{"no job, no number", by("a", 1, 5, begin("p", "J", 0)), api.ErrName},
		{"no station, no other", by("a", 1, 5, undo("B", 0)), api.ErrName},
		{"no printer, too much", by("a", 1, 5, api.Note{Kind: api.NoteEnd, Printer: "P", N: 3}), api.ErrName},
		{"a begin with no layers", by("a", 1, 5, begin("p", "j", 0)), api.ErrArg},
		{"a begin with too many layers", by("a", 1, 5, begin("p", "j", api.MaxLayers+1)), api.ErrArg},
		{"the layer 0", by("a", 1, 5, layer("p", 0)), api.ErrArg},
		{"a layer that is too great", by("a", 1, 5, layer("p", api.MaxLayers+1)), api.ErrArg},
		{"a load of nothing", by("a", 1, 5, load("p", "s", 0)), api.ErrArg},
		{"a load of less than nothing", by("a", 1, 5, load("p", "s", -1)), api.ErrArg},
		{"a load of too much", by("a", 1, 5, load("p", "s", api.MaxFlow+1)), api.ErrArg},
		{"a use of nothing", by("a", 1, 5, use("p", 0)), api.ErrArg},
		{"a use of too much", by("a", 1, 5, use("p", api.MaxFlow+1)), api.ErrArg},
		{"an undo of the number 0", by("a", 1, 5, undo("a", 0)), api.ErrArg},
		{"an undo of a number that is too great", by("a", 1, 5, undo("a", api.MaxNo+1)), api.ErrArg},
		{"no layers, too much", by("a", 1, 5, api.Note{Kind: api.NoteBegin, Printer: "p", Job: "j", Spool: "s"}), api.ErrArg},
		{"an undo of nothing, with a number", by("a", 1, 5, api.Note{Kind: api.NoteUndo, Of: "a", N: 1}), api.ErrArg},
		{"a begin with a spool", by("a", 1, 5, api.Note{Kind: api.NoteBegin, Printer: "p", Job: "j", N: 1, Spool: "s"}), api.ErrForm},
		{"an undo with what is no key", by("a", 1, 5, api.Note{Kind: api.NoteUndo, Of: "a", Other: 1, Printer: " "}), api.ErrForm},
		{"an end with a number below 0", by("a", 1, 5, api.Note{Kind: api.NoteEnd, Printer: "p", N: -1}), api.ErrForm},
	}
}

// P10.1: what is well formed, at its bounds.
func TestWellFormed(t *testing.T) {
	long := strings.Repeat("z", api.MaxName)
	for _, x := range notes(
		begin("p", "j", 1), begin(long, long, api.MaxLayers), layer("p", 1), layer(long, api.MaxLayers), end("p"), end(long), fail("p"), fail(long),
		load("p", "s", 1), load(long, long, api.MaxFlow), use("p", 1), use(long, api.MaxFlow), undo("a", 1), undo(long, api.MaxNo),
	) {
		for _, n := range [][]api.Note{notes(by("a", 1, 0, x)), notes(by(long, api.MaxNo, last, x))} {
			if e := record.CheckNotes(n); e != api.OK {
				t.Error(n, e)
			}
		}
	}
}

// P10.1: what is not well formed, and what is first wrong with it, told by all functions with notes.
func TestWrongNotes(t *testing.T) {
	good := by("a", 2, 4, end("p"))
	for _, c := range wrongNotes() {
		for _, n := range [][]api.Note{notes(c.x), notes(good, c.x), notes(good, c.x, c.x), notes(by("b", 3, 0, end("q")), good, c.x, good)} {
			fails(t, c.name, c.e, withNotes(n, "j", 0, api.Window{}, end("p"), "")...)
			fails(t, c.name, c.e, withNotes(n, "J", -1, api.Window{From: -1}, good, "x")...)
		}
	}
	for _, i := range []int{least, -1, 0, greatest} {
		for _, x := range notes(begin("p", "j", i), layer("p", i), load("p", "s", i), use("p", i), undo("a", i)) {
			fails(t, i, api.ErrArg, checkNotes(notes(by("a", 1, 5, x))))
		}
		fails(t, i, api.ErrArg, checkNotes(notes(by("a", i, 5, end("p")))))
	}
	for _, i := range []int{least, -1, api.End, greatest} {
		fails(t, i, api.ErrArg, checkNotes(notes(by("a", 1, i, end("p")))))
	}
	for _, i := range []int{least, -1, 0, api.NoteUndo + 1, greatest} {
		fails(t, i, api.ErrKind, checkNotes(notes(by("a", 1, 5, api.Note{Kind: i, Printer: "p"}))))
	}
	for _, s := range notKeys() {
		fails(t, s, api.ErrName, checkNotes(notes(by(s, 1, 5, end("p")))))
		for _, x := range notes(begin(s, "j", 1), begin("p", s, 1), layer(s, 1), end(s), fail(s), load(s, "s", 1), load("p", s, 1), use(s, 1), undo(s, 1)) {
			fails(t, s, api.ErrName, checkNotes(notes(by("a", 1, 5, x))))
		}
	}
}

// P10.1: each kind of note has each field that it does not use zero.
func TestUnusedFields(t *testing.T) {
	for _, x := range notes(begin("p", "j", 1), layer("p", 1), end("p"), fail("p"), load("p", "s", 1), use("p", 1), undo("a", 1)) {
		x = by("a", 1, 5, x)
		for i := range 6 {
			y := x
			switch i {
			case 0:
				y.Printer = "o"
			case 1:
				y.Job = "o"
			case 2:
				y.Spool = "o"
			case 3:
				y.N = 2
			case 4:
				y.Of = "o"
			case 5:
				y.Other = 2
			}
			isUsed := slices.Contains(map[int][]int{
				api.NoteBegin: {0, 1, 3}, api.NoteLayer: {0, 3}, api.NoteEnd: {0}, api.NoteFail: {0}, api.NoteLoad: {0, 2, 3}, api.NoteUse: {0, 3}, api.NoteUndo: {4, 5},
			}[x.Kind], i)
			e := api.ErrForm
			if isUsed {
				e = api.OK
			}
			fails(t, y, e, checkNotes(notes(y)))
		}
	}
}

// P10.1: the errors of several notes, in order.
func TestCheckNotes(t *testing.T) {
	wrong := by("a", 9, 9, end("P"))
	for _, c := range []struct {
		name string
		n    []api.Note
		e    api.Errno
	}{
		{"none", nil, api.OK},
		{"as many as there can be", many(api.MaxNotes), api.OK},
		{"too many", many(api.MaxNotes + 1), api.ErrLarge},
		{"too many that are wrong", make([]api.Note, api.MaxNotes+1), api.ErrLarge},
		{"by moments", notes(by("b", 9, 5, end("p")), by("a", 3, 6, end("p")), by("a", 2, 7, end("p"))), api.OK},
		{"by stations", notes(by("a", 9, 5, end("p")), by("a0", 3, 5, end("p")), by("b", 2, 5, end("p"))), api.OK},
		{"by numbers", notes(by("a", 9, 5, end("p")), by("a", 10, 5, end("p")), by("a", 100, 5, end("p"))), api.OK},
		{"too early", notes(by("a", 1, 5, end("p")), by("b", 2, 4, end("p"))), api.ErrOrder},
		{"a station too early", notes(by("b", 1, 5, end("p")), by("a", 2, 5, end("p"))), api.ErrOrder},
		{"a station too early that is longer", notes(by("b", 1, 5, end("p")), by("ab", 2, 5, end("p"))), api.ErrOrder},
		{"a number too early", notes(by("a", 10, 5, end("p")), by("a", 9, 5, end("p"))), api.ErrOrder},
		{"the same", notes(by("a", 1, 5, end("p")), by("a", 1, 5, end("p"))), api.ErrOrder},
		{"another one in the same place", notes(by("a", 1, 5, end("p")), by("a", 1, 5, fail("p"))), api.ErrOrder},
		{"earlier than the one before", notes(by("a", 1, 5, end("p")), by("a", 2, 7, end("p")), by("a", 3, 6, end("p"))), api.ErrOrder},
		{"too early, before a wrong one", notes(by("a", 1, 7, end("p")), by("a", 2, 6, end("p")), wrong), api.ErrOrder},
		{"too early, and wrong", notes(by("a", 1, 10, end("p")), wrong), api.ErrName},
		{"a number twice", notes(by("a", 1, 5, end("p")), by("a", 1, 6, end("p"))), api.ErrTwice},
		{"a number twice, with others between", notes(by("a", 1, 5, end("p")), by("a", 2, 5, end("p")), by("b", 1, 5, end("p")), by("a", 1, 6, end("p"))), api.ErrTwice},
		{"a number twice, before a wrong one", notes(by("a", 1, 5, end("p")), by("a", 1, 6, end("p")), wrong), api.ErrName},
		{"a number twice, before one too early", notes(by("a", 1, 5, end("p")), by("a", 1, 6, end("p")), by("a", 3, 4, end("p"))), api.ErrOrder},
	} {
		if got := record.CheckNotes(c.n); got != c.e {
			t.Error(c.name, got)
		}
		if c.e != api.OK {
			fails(t, c.name, c.e, withNotes(c.n, "j", 0, api.Window{}, end("p"), "")...)
			fails(t, c.name, c.e, withNotes(c.n, "J", -1, api.Window{From: -1}, wrong, "x")...)
		}
	}
}

// P10.1: the notes of both lists, equal ones once, in order.
func TestMerge(t *testing.T) {
	n := sample()
	x, y := by("c", 1, 41, end("p")), by("a", 9, 0, end("p"))
	for _, c := range []struct {
		name    string
		a, b, m []api.Note
	}{
		{"nothing", nil, nil, nil},
		{"one alone", n, nil, n},
		{"twice the same", n, n, n},
		{"one after the other", n[:5], n[5:], n},
		{"with some in both", n[:7], n[3:], n},
		{"with all of one in the other", n, n[2:4], n},
		{"by moments", notes(x), n[:3], append(slices.Clone(n[:3]), x)},
		{"by stations", notes(x), n[5:7], append(slices.Clone(n[5:7]), x)},
		{"first", n[:3], notes(y), append(notes(y), n[:3]...)},
		{"by numbers", notes(by("a", 9, 5, end("p"))), notes(by("a", 8, 5, end("p")), by("a", 10, 5, end("p"))), notes(by("a", 8, 5, end("p")), by("a", 9, 5, end("p")), by("a", 10, 5, end("p")))},
		{"one number of two stations", notes(by("a", 1, 5, end("p"))), notes(by("b", 1, 5, end("p"))), notes(by("a", 1, 5, end("p")), by("b", 1, 5, end("p")))},
		{"as many as there can be", many(api.MaxNotes), many(api.MaxNotes), many(api.MaxNotes)},
		{"together as many as there can be", many(api.MaxNotes)[1_000:], many(api.MaxNotes)[:1_000], many(api.MaxNotes)},
	} {
		for _, lists := range [][2][]api.Note{{c.a, c.b}, {c.b, c.a}} {
			if m, e := record.Merge(lists[0], lists[1]); e != api.OK || !slices.Equal(m, c.m) {
				t.Error(c.name, shown(m), e)
			}
		}
	}
}

// P10.1: random lists, merged in any order, are all their notes.
func TestRandomMerge(t *testing.T) {
	r := rand.New(rand.NewSource(1))
	for range 500 {
		n := randomNotes(r)
		var parts [3][]api.Note
		for _, x := range n {
			for i := range parts {
				if r.Intn(3) == 0 || i == x.At%3 {
					parts[i] = append(parts[i], x)
				}
			}
		}
		for _, order := range [][3]int{{0, 1, 2}, {0, 2, 1}, {1, 0, 2}, {1, 2, 0}, {2, 0, 1}, {2, 1, 0}} {
			m, e := record.Merge(parts[order[0]], parts[order[1]])
			m, again := record.Merge(m, parts[order[2]])
			if e != api.OK || again != api.OK || !slices.Equal(m, n) {
				t.Fatal(n, order, m, e, again)
			}
		}
	}
}

// P10.1: the errors of Merge: those of the lists in order, then of notes that differ, then of too many.
func TestWrongMerge(t *testing.T) {
	a, b := notes(by("a", 1, 5, end("P"))), notes(by("a", 0, 5, end("p")))
	fails(t, "both wrong", api.ErrName, merge(a, b))
	fails(t, "both wrong, the other way", api.ErrArg, merge(b, a))
	most := many(api.MaxNotes)
	fails(t, "the second one too large", api.ErrLarge, merge(nil, many(api.MaxNotes+1)))
	fails(t, "together too large", api.ErrLarge, merge(most, notes(by("a", 1, 5, end("p")))), merge(notes(by("a", 1, 5, end("p"))), most), merge(most[:1_999], notes(by("a", 1, 5, end("p")), most[1_998], most[1_999])))
	for _, x := range notes(by("m", 7, 7, use("p", 1)), by("m", 7, 6, use("p", 2)), by("m", 7, 6, use("q", 1)), by("m", 7, 6, layer("p", 1)), by("m", 7, 0, use("p", 1))) {
		fails(t, x, api.ErrConflict, merge(most[:10], notes(x)), merge(notes(x), most[:10]), merge(notes(x), most), merge(most, notes(by("a", 1, 0, end("p")), x)))
	}
}

// P10.1: a note of a station has the next number of it.
func TestWrite(t *testing.T) {
	n := sample()
	for _, c := range []struct {
		n  []api.Note
		x  api.Note
		no int
	}{
		{nil, by("a", 0, 0, end("p")), 1},
		{nil, by("a", 0, last, undo("a", 1)), 1},
		{n, by("a", 0, 91, load("p", "t", 5)), 8},
		{n, by("a", 0, 90, layer("p", 1)), 8},
		{n, by("b", 0, 90, end("p")), 7},
		{n, by("c", 0, 90, begin("p", "z", 1)), 1},
		{n[:1], by("a", 0, 5, end("p")), 2},
		{notes(by("a", 7, 5, end("p")), by("a", 3, 6, end("p")), by("b", 9, 6, end("p"))), by("a", 0, 7, end("p")), 8},
		{notes(by("a", api.MaxNo-1, 5, end("p"))), by("a", 0, 5, end("p")), api.MaxNo},
		{many(api.MaxNotes - 1), by("m", 0, api.MaxNotes-1, use("p", 1)), api.MaxNotes},
	} {
		want := c.x
		want.No = c.no
		if m, e := record.Write(c.n, c.x); e != api.OK || !slices.Equal(m, append(slices.Clone(c.n), want)) {
			t.Error(shown(m), c.x, e)
		}
	}
}

// P10.1: the errors of Write, in order.
func TestWrongWrite(t *testing.T) {
	n := sample()
	for _, i := range []int{least, -1, 1, 8, greatest} {
		fails(t, i, api.ErrForm, write(n, by("a", i, 95, end("p"))), write(n, by("A", i, -1, end("P"))), write(many(api.MaxNotes), by("a", i, 0, end("p"))))
	}
	for _, c := range wrongNotes() {
		if c.x.No == 1 {
			c.x.No = 0
			fails(t, c.name, c.e, write(nil, c.x), write(n, c.x), write(many(api.MaxNotes), c.x))
		}
	}
	full := notes(by("a", api.MaxNo, 5, end("p")))
	fails(t, "no number is left", api.ErrArg, write(full, by("a", 0, 6, end("p"))), write(full, by("a", 0, 4, end("P"))), write(full, by("a", 0, 4, end("p"))))
	if m, e := record.Write(full, by("b", 0, 6, end("p"))); e != api.OK || len(m) != 2 || m[1].No != 1 {
		t.Error(m, e)
	}
	fails(t, "too early", api.ErrOrder, write(n, by("a", 0, 89, end("p"))), write(n, by("c", 0, 89, end("p"))), write(n, by("b", 0, 0, end("p"))))
	fails(t, "a station too early", api.ErrOrder, write(notes(by("b", 1, 5, end("p"))), by("a", 0, 5, end("p"))))
	fails(t, "too early, and too many", api.ErrOrder, write(many(api.MaxNotes), by("z", 0, 0, end("p"))), write(many(api.MaxNotes), by("l", 0, api.MaxNotes-1, end("p"))))
	fails(t, "too many", api.ErrLarge, write(many(api.MaxNotes), by("m", 0, api.MaxNotes, end("p"))), write(many(api.MaxNotes), by("a", 0, last, end("p"))))
}

// P10.1: which notes count, and which are undone.
func TestCounting(t *testing.T) {
	for _, c := range []struct {
		name string
		n    []api.Note
		at   int
		want []int
	}{
		{"none", nil, 0, nil},
		{"before all", series(end("p")), 9, nil},
		{"at the moment", series(end("p")), 10, list(0)},
		{"up to the moment", series(end("p"), end("p"), end("p")), 29, list(0, 1)},
		{"all", series(end("p"), end("p"), end("p")), last, list(0, 1, 2)},
		{"undone", series(end("p"), undo("a", 1)), 20, list(1)},
		{"not undone yet", series(end("p"), undo("a", 1)), 19, list(0)},
		{"an undo that is undone", series(end("p"), undo("a", 1), undo("a", 2)), 30, list(0, 2)},
		{"an undo that is not undone yet", series(end("p"), undo("a", 1), undo("a", 2)), 29, list(1)},
		{"three of them", series(end("p"), undo("a", 1), undo("a", 2), undo("a", 3)), 40, list(1, 3)},
		{"undone twice, once undone", series(end("p"), undo("a", 1), undo("a", 1), undo("a", 2)), 40, list(2, 3)},
		{"undone twice, both undone", series(end("p"), undo("a", 1), undo("a", 1), undo("a", 2), undo("a", 3)), 50, list(0, 3, 4)},
		{"of another station", notes(by("a", 1, 5, end("p")), by("b", 1, 5, end("p")), by("c", 1, 6, undo("b", 1))), 6, list(0, 2)},
		{"of a number that is not there", series(end("p"), undo("a", 7), undo("b", 1)), 30, list(0, 1, 2)},
		{"of itself", series(end("p"), undo("a", 2)), 20, list(0, 1)},
		{"of a later one", series(undo("a", 2), end("p")), 20, list(0, 1)},
		{"of a later undo", series(undo("a", 3), end("p"), undo("a", 2)), 30, list(0, 2)},
		{"of each other", series(undo("a", 2), undo("a", 1)), 20, list(1)},
		{"at one moment, the station after it", notes(by("a", 1, 5, end("p")), by("b", 1, 5, undo("a", 1))), 5, list(1)},
		{"at one moment, the station before it", notes(by("a", 1, 5, undo("b", 1)), by("b", 1, 5, end("p"))), 5, list(0, 1)},
		{"a greater number that is earlier", notes(by("a", 9, 5, end("p")), by("a", 2, 6, undo("a", 9))), 6, list(1)},
	} {
		if got, e := record.Counting(c.n, c.at); e != api.OK || !slices.Equal(got, c.want) {
			t.Error(c.name, got, e)
		}
	}
}

// counts reports whether a note counts, as P10.1 says it.
func counts(n []api.Note, at, i int) bool {
	for k := i + 1; k < len(n); k++ {
		if n[k].At <= at && n[k].Kind == api.NoteUndo && n[k].Of == n[i].Station && n[k].Other == n[i].No && counts(n, at, k) {
			return false
		}
	}
	return n[i].At <= at
}

// counted are the indices of the notes that count.
func counted(n []api.Note, at int) []int {
	var l []int
	for i := range n {
		if counts(n, at, i) {
			l = append(l, i)
		}
	}
	return l
}

func TestRandomCounting(t *testing.T) {
	r := rand.New(rand.NewSource(2))
	for range 3000 {
		n := randomNotes(r)
		at := r.Intn(50)
		for i := range n {
			if r.Intn(3) == 0 {
				n[i] = by(n[i].Station, n[i].No, n[i].At, undo(randomKey(r, "abc"), 1+r.Intn(5)))
			}
		}
		if got, e := record.Counting(n, at); e != api.OK || !slices.Equal(got, counted(n, at)) {
			t.Fatal(n, at, got, e)
		}
	}
}

// P10.1: functions with a moment say that it is none after the errors of the notes, and before their own.
func TestWrongMoments(t *testing.T) {
	for _, at := range []int{least, -1, api.End, greatest} {
		fails(t, at, api.ErrArg, withMoment(sample(), "j", at)...)
		fails(t, at, api.ErrArg, withMoment(nil, "J", at)...)
	}
	for _, at := range []int{0, last} {
		for _, f := range withMoment(sample(), "j", at) {
			if _, e := f.run(); e == api.ErrArg {
				t.Error(f.name, at, e)
			}
		}
	}
}
