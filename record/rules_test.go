package record_test

import (
	"math/rand"
	"reflect"
	"slices"
	"sync"
	"testing"

	"beadlayer/api"
	"beadlayer/record"
)

// arguments are those of all functions.
type arguments struct {
	n, other []api.Note
	x        api.Note
	name     string
	at       int
	w        api.Window
	script   string
	text     string
}

func (a arguments) calls() []call {
	calls := withNotes(a.n, a.name, a.at, a.w, a.x, a.script)
	return append(calls, merge(a.n, a.other), merge(a.other, a.n), read(a.text))
}

// valid arguments with which all functions have results, all of them with something in them.
func valid() arguments {
	return arguments{
		n: sample(), other: notes(by("b", 4, 60, fail("q")), by("c", 1, 60, fail("q"))), x: by("b", 0, 95, end("q")), name: "j", at: 60, w: api.Window{From: 3, To: 60},
		script: "at 60\njobs\nrunning\nfilament\njob j\npace j\nused s\njob x\n", text: "a 1 5 begin p j 3\na 2 5 layer p 1\nb 1 5 undo a 2\n",
	}
}

// random arguments are valid, but for a job that need not be there.
func random(r *rand.Rand) arguments {
	n := randomNotes(r)
	a := arguments{n: n, x: by("c", 0, 500, use("p", 3)), name: randomKey(r, "jklmnstu"), at: r.Intn(60), w: api.Window{From: r.Intn(20), To: 20 + r.Intn(40)}, script: "at 30\njobs\nfilament\njob j\n"}
	for _, x := range n {
		if r.Intn(2) == 0 {
			a.other = append(a.other, x)
		}
	}
	a.other = append(a.other, by("z", 1, 400, end("q")))
	a.text, _ = record.Text(n)
	return a
}

// odd is a number that may be anything.
func odd(r *rand.Rand) int {
	values := []int{
		least, least + 1, -1, 0, 1, 2, 3, 6, 7, 8, api.MaxNotes, api.MaxLayers, api.MaxLayers + 1, api.MaxNo, api.MaxNo + 1, api.MaxFlow, api.MaxFlow + 1,
		last, api.End, api.End + 1, 1 << 31, 1 << 32, 1 << 62, greatest - 1, greatest,
	}
	return values[r.Intn(len(values))]
}

func oddText(r *rand.Rand) string {
	words := []string{"", "a", "p", "j", "z", "A", "a b", "\n", "a 1 5 end p", "z 1 900 end p\n", "a 1\n", " ", "\xff", "a 1 5 \xff p\n", "-", "at 5\n", "job j\n"}
	return words[r.Intn(len(words))]
}

func oddNote(r *rand.Rand) api.Note {
	return api.Note{
		Station: oddText(r), No: odd(r), At: odd(r), Kind: odd(r), Printer: oddText(r), Job: oddText(r), Spool: oddText(r), N: odd(r), Of: oddText(r), Other: odd(r),
	}
}

// spoilOne makes one thing something that may be anything.
func (a *arguments) spoilOne(r *rand.Rand) {
	switch r.Intn(10) {
	case 0:
		*[]*int{&a.at, &a.w.From, &a.w.To}[r.Intn(3)] = odd(r)
	case 1:
		a.n = append(a.n, oddNote(r))
	case 2:
		a.n = append(a.n, by(oddText(r), odd(r), odd(r), randomNote(r, make(map[string]int))))
	case 3:
		a.other = append(a.other, oddNote(r))
	case 4:
		a.other = append(a.other, by("z", odd(r), 401, undo("a", odd(r))))
	case 5:
		a.x = oddNote(r)
	case 6:
		a.x = by("a", 0, odd(r), randomNote(r, make(map[string]int)))
	case 7:
		a.name = oddText(r)
	case 8:
		a.script += oddText(r)
	case 9:
		a.text += oddText(r)
	}
}

// Z1, Z3, Z6: no arguments make a call panic, and with an error all else is zero.
func TestAnyArguments(t *testing.T) {
	r := rand.New(rand.NewSource(7))
	fine, wrong := make(map[string]int), make(map[string]int)
	for range 10_000 {
		a := random(r)
		for range r.Intn(4) {
			a.spoilOne(r)
		}
		for _, f := range a.calls() {
			results, e := f.run()
			if e == api.OK {
				fine[f.name]++
				continue
			}
			wrong[f.name]++
			if e == api.ErrSyntax && f.name == "Read" {
				results = results[:1] // the number of the line stays
			}
			if slices.ContainsFunc(results, func(x any) bool { return !isZero(x) }) {
				t.Fatal(f.name, a, results, e)
			}
		}
	}
	if len(fine) != 16 || len(wrong) != 16 {
		t.Error(fine, wrong)
	}
	for name := range fine {
		if fine[name] < 500 || wrong[name] < 200 {
			t.Error(name, fine[name], wrong[name])
		}
	}
}

// same reports whether results are the same; an empty list and none are (Z5).
func same(a, b []any) bool {
	return slices.EqualFunc(a, b, func(x, y any) bool { return isZero(x) && isZero(y) || reflect.DeepEqual(x, y) })
}

// Z1: functions without objects can be called by several goroutines at once.
func TestSeveralGoroutines(t *testing.T) {
	var all sync.WaitGroup
	calls := valid().calls()
	for range 8 {
		all.Go(func() {
			for _, f := range calls {
				if _, e := f.run(); e != api.OK {
					t.Error(f.name, e)
				}
			}
		})
	}
	all.Wait()
}

// wide is a copy of a list with two more elements in the memory behind its length.
func wide[T any](list []T, behind T) []T {
	return append(slices.Clone(list), behind, behind)[:len(list)]
}

// widened are the arguments with something wrong behind the length of each list.
func (a arguments) widened() arguments {
	a.n, a.other = wide(a.n, api.Note{At: -1}), wide(a.other, api.Note{Station: "z"})
	return a
}

// all are the arguments with what is behind the length of each list.
func (a arguments) all() arguments {
	a.n, a.other = a.n[:len(a.n)+2], a.other[:len(a.other)+2]
	return a
}

// spoil changes what is in a list, and in the memory behind it.
func spoil(v reflect.Value) {
	if v.Kind() != reflect.Slice {
		return
	}
	whole := v.Slice(0, v.Cap())
	for i := range whole.Len() {
		whole.Index(i).SetZero()
	}
}

// Z2: arguments stay as they are, and share no memory with results; what is behind the length of a list is neither looked at nor changed.
func TestOwnMemory(t *testing.T) {
	r := rand.New(rand.NewSource(8))
	for n := range 300 {
		a := random(r)
		if n == 0 {
			a = valid()
		}
		plain, wider, before := a.calls(), a.widened(), a.widened().all()
		for i, f := range wider.calls() {
			want, e := plain[i].run()
			results, again := f.run()
			if e != again || !same(results, want) {
				t.Fatal(f.name, a, results, want, e, again)
			}
			for _, x := range results {
				spoil(reflect.ValueOf(x))
			}
			if !reflect.DeepEqual(wider.all(), before) {
				t.Fatal(f.name, "changed an argument")
			}
			if next, _ := f.run(); !same(next, want) {
				t.Fatal(f.name, "has kept its result")
			}
		}
	}
}

// Z5: an empty list and none are the same.
func TestEmptyLists(t *testing.T) {
	none := arguments{x: by("a", 0, 5, end("p")), name: "j"}
	empty := none
	empty.n, empty.other = []api.Note{}, []api.Note{}
	calls := none.calls()
	for i, f := range empty.calls() {
		got, e := f.run()
		want, again := calls[i].run()
		if e != again || !same(got, want) {
			t.Error(f.name, got, want, e, again)
		}
	}
}

// Z7: the same arguments give the same results, again and again.
func TestSameResults(t *testing.T) {
	r := rand.New(rand.NewSource(9))
	for range 100 {
		for _, f := range random(r).calls() {
			first, e := f.run()
			for range 10 {
				if next, again := f.run(); e != again || !same(first, next) {
					t.Fatal(f.name, first, next, e, again)
				}
			}
		}
	}
}

// What follows: a note that is undone changes nothing.
func TestUndoneNotes(t *testing.T) {
	r := rand.New(rand.NewSource(10))
	for range 500 {
		a := random(r)
		if len(a.n) == 0 {
			continue
		}
		i := r.Intn(len(a.n))
		undone, at := by("z", 1, 900, undo(a.n[i].Station, a.n[i].No)), 1_000
		without := append(slices.Delete(slices.Clone(a.n), i, i+1), undone)
		calls := withMoment(without, a.name, at)
		for k, f := range withMoment(append(slices.Clone(a.n), undone), a.name, at) {
			got, e := f.run()
			want, again := calls[k].run()
			if f.name == "Counting" || f.name == "Refused" {
				got[0], want[0] = len(got[0].([]int)), len(want[0].([]int))
			}
			if e != again || !same(got, want) {
				t.Fatal(f.name, a.n, i, got, want, e, again)
			}
		}
	}
}

// What follows: no spool gives more than was on it.
func TestNoSpoolGivesMore(t *testing.T) {
	r := rand.New(rand.NewSource(11))
	for range 500 {
		n := randomNotes(r)
		for _, spool := range []string{"s", "t", "u"} {
			most := 0
			for _, i := range counted(n, last) {
				if n[i].Spool == spool {
					most += n[i].N
				}
			}
			if used, e := record.Used(n, spool, last); e != api.OK || used > most {
				t.Fatal(n, spool, used, e)
			}
		}
	}
}
