package flow_test

import (
	"math/rand"
	"reflect"
	"slices"
	"sync"
	"testing"

	"beadlayer/api"
	"beadlayer/flow"
)

// arguments are those of all functions.
type arguments struct {
	b                []api.Bead
	area, back, most int
	at, times        []int
	least, density   int
	s                []api.Spool
	d                []api.Draw
	moment           int
	material         string
	needs            []int
	need             int
	text             string
}

func (a arguments) calls() []call {
	calls := append(withBeads(a.b), withArea(a.b, a.area, a.back, a.at)...)
	calls = append(calls, fastest(a.b, a.most), slowed(a.times, a.least), weight(a.b, a.density), checkSpools(a.s))
	calls = append(calls, withDraws(a.s, a.d, a.moment)...)
	return append(calls, fits(a.s, a.material, a.needs), changes(a.s, a.material, a.need), text(a.d), read(a.text))
}

// valid arguments with which all functions have results, all of them with something in them.
func valid() arguments {
	return arguments{
		b: beads(10, 3, 2, 10, 3, 2, 7, 1, 1), area: 40, back: 8, most: 30, at: list(0, 2), times: list(5, 20, 9), least: 10, density: 1_250,
		s:      []api.Spool{spool("a", "m", 9), spool("b", "n", 30), spool("c", "m", 20), spool("d", "m", 8)},
		d:      []api.Draw{draw(1, "a", 5), draw(1, "b", 40), draw(2, "c", -7), draw(3, "c", 30), draw(5, "d", 8)},
		moment: 3, material: "m", needs: list(8, 9, 5, 7), need: 29, text: "3 a 5\n2 bb -7\n",
	}
}

// random arguments are valid.
func random(r *rand.Rand) arguments {
	a := valid()
	a.b, a.area, a.most = beads(1+r.Intn(9), 1+r.Intn(9), 1+r.Intn(9), r.Intn(9), 1+r.Intn(9), 1+r.Intn(9), 3, 4, 5), randomArea(r), 1+r.Intn(99)
	a.times, a.least, a.density = list(r.Intn(9), r.Intn(9), r.Intn(9)), r.Intn(9), 1+r.Intn(99)
	a.s = randomSpools(r, 6, 20)
	a.d = randomDraws(r, a.s, 20)
	a.moment, a.needs, a.need = r.Intn(40), list(1+r.Intn(7), 1+r.Intn(7), 1+r.Intn(7)), r.Intn(60)
	a.text, _ = flow.Text(a.d)
	return a
}

// odd is a number that may be anything.
func odd(r *rand.Rand) int {
	values := []int{
		least, least + 1, -api.MaxFilament - 1, -1, 0, 1, 2, 3, api.MaxSpools + 1, api.MaxWide, api.MaxWide + 1, api.MaxMove, api.MaxMove + 1, api.MaxArea, api.MaxArea + 1,
		api.DayLong, api.DayLong + 1, api.MaxFilament, api.MaxFilament + 1, api.End - 1, api.End, 1_000_000_000_000, 1_000_000_000_001, 1 << 31, 1 << 32, 1 << 62, greatest - 1, greatest,
	}
	return values[r.Intn(len(values))]
}

func oddText(r *rand.Rand) string {
	return []string{"", "a", "m", "A", "a b", "\n", "3 a 5", "3 a 5\n", "3 a\n", " ", "\xff", "3 \xff 5\n", "-", "z"}[r.Intn(14)]
}

// spoilOne makes one thing something that may be anything.
func (a *arguments) spoilOne(r *rand.Rand) {
	numbers := []*int{&a.area, &a.back, &a.most, &a.least, &a.density, &a.moment, &a.need}
	lists := []*[]int{&a.at, &a.times, &a.needs}
	switch r.Intn(8) {
	case 0:
		*numbers[r.Intn(len(numbers))] = odd(r)
	case 1:
		l := lists[r.Intn(len(lists))]
		*l = append(*l, odd(r))
	case 2:
		a.b = append(a.b, api.Bead{Long: odd(r), Wide: odd(r), High: odd(r)})
	case 3:
		a.b[r.Intn(len(a.b))].Long = odd(r)
	case 4:
		a.s = append(a.s, spool(oddText(r), oddText(r), odd(r)))
	case 5:
		a.d = append(a.d, draw(odd(r), oddText(r), odd(r)))
	case 6:
		a.material = oddText(r)
	case 7:
		a.text += oddText(r)
	}
}

// Z1, Z3, Z6: no arguments make a call panic, and with an error all else is zero.
func TestAnyArguments(t *testing.T) {
	r := rand.New(rand.NewSource(11))
	fine, wrong := make(map[string]int), make(map[string]int)
	for range 10_000 {
		a := random(r)
		for range r.Intn(4) {
			a.spoilOne(r)
		}
		for _, f := range a.calls() {
			results, e := f.run()
			if e == api.OK {
				fine[f.name]++
				continue
			}
			wrong[f.name]++
			if e == api.ErrSyntax {
				results = results[:1] // the number of the line stays
			}
			if slices.ContainsFunc(results, func(x any) bool { return !isZero(x) }) {
				t.Fatal(f.name, a, results, e)
			}
		}
	}
	if len(fine) != 16 || len(wrong) != 16 {
		t.Error(fine, wrong)
	}
	for name := range fine {
		if fine[name] < 500 || wrong[name] < 200 {
			t.Error(name, fine[name], wrong[name])
		}
	}
}

// Z1: functions without objects can be called by several goroutines at once.
func TestSeveralGoroutines(t *testing.T) {
	var all sync.WaitGroup
	calls := valid().calls()
	for range 8 {
		all.Go(func() {
			for _, f := range calls {
				if _, e := f.run(); e != api.OK {
					t.Error(f.name, e)
				}
			}
		})
	}
	all.Wait()
}

// wide is a copy of a list with two more elements in the memory behind its length.
func wide[T any](list []T, behind T) []T {
	return append(slices.Clone(list), behind, behind)[:len(list)]
}

// widened are the arguments with something wrong behind the length of each list.
func (a arguments) widened() arguments {
	a.b, a.at, a.times, a.needs = wide(a.b, api.Bead{Long: -1}), wide(a.at, -1), wide(a.times, -1), wide(a.needs, -1)
	a.s, a.d = wide(a.s, api.Spool{}), wide(a.d, api.Draw{At: -1})
	return a
}

// all are the arguments with what is behind the length of each list.
func (a arguments) all() arguments {
	a.b, a.at, a.times, a.needs = a.b[:len(a.b)+2], a.at[:len(a.at)+2], a.times[:len(a.times)+2], a.needs[:len(a.needs)+2]
	a.s, a.d = a.s[:len(a.s)+2], a.d[:len(a.d)+2]
	return a
}

// spoil changes what is in lists, and in the memory behind them.
func spoil(v reflect.Value) {
	if v.Kind() != reflect.Slice {
		return
	}
	whole := v.Slice(0, v.Cap())
	for i := range whole.Len() {
		whole.Index(i).SetZero()
	}
}

// Z2: arguments stay as they are, and share no memory with results; what is behind the length of a list is neither looked at nor changed.
func TestOwnMemory(t *testing.T) {
	r := rand.New(rand.NewSource(12))
	for n := range 300 {
		a := random(r)
		if n == 0 {
			a = valid()
		}
		plain, wider, before := a.calls(), a.widened(), a.widened().all()
		for i, f := range wider.calls() {
			want, e := plain[i].run()
			results, again := f.run()
			if e != again || e != api.OK || !reflect.DeepEqual(results, want) {
				t.Fatal(f.name, a, results, want, e, again)
			}
			for _, x := range results {
				spoil(reflect.ValueOf(x))
			}
			if !reflect.DeepEqual(wider.all(), before) {
				t.Fatal(f.name, "changed an argument")
			}
			if next, _ := f.run(); !reflect.DeepEqual(next, want) {
				t.Fatal(f.name, "has kept its result")
			}
		}
	}
}

// Z5: an empty list and none are the same.
func TestEmptyLists(t *testing.T) {
	none := arguments{area: 1, back: 1, most: 1, density: 1, material: "m"}
	empty := none
	empty.b, empty.at, empty.times, empty.needs = []api.Bead{}, []int{}, []int{}, []int{}
	empty.s, empty.d = []api.Spool{}, []api.Draw{}
	calls := none.calls()
	for i, f := range empty.calls() {
		got, e := f.run()
		want, again := calls[i].run()
		if e != api.OK || again != api.OK || len(got) != len(want) {
			t.Error(f.name, got, want, e, again)
		}
		for k, x := range got {
			if isZero(x) != isZero(want[k]) || !isZero(x) && !reflect.DeepEqual(x, want[k]) {
				t.Error(f.name, x, want[k])
			}
		}
	}
}

// Z7: the same arguments give the same results, again and again.
func TestSameResults(t *testing.T) {
	r := rand.New(rand.NewSource(13))
	for range 100 {
		for _, f := range random(r).calls() {
			first, e := f.run()
			for range 10 {
				if next, again := f.run(); e != api.OK || again != api.OK || !reflect.DeepEqual(first, next) {
					t.Fatal(f.name, first, next, e, again)
				}
			}
		}
	}
}
