package farm_test

import (
	"math/rand"
	"reflect"
	"slices"
	"sync"
	"testing"

	"beadlayer/api"
	"beadlayer/farm"
)

// arguments are those of all functions.
type arguments struct {
	p       []api.Printer
	j       []api.Job
	plan    [][]int
	minutes int
	l       []api.Event
	key     string
	at      int
	w       api.Window
	text    string
}

func (a arguments) calls() []call {
	calls := append(withBoth(a.p, a.j, a.plan, a.minutes), checkPrinters(a.p), checkJobs(a.j))
	for _, p := range a.p[:min(1, len(a.p))] {
		calls = append(calls, leastLate(p, a.j, a.minutes))
	}
	calls = append(calls, withEvents(a.p, a.l, a.key, a.at, a.w)...)
	return append(calls, text(a.l), read(a.text))
}

// valid arguments with which all functions have results, all of them with something in them.
func valid() arguments {
	return arguments{
		p: samplePrinters(), j: sampleJobs(), plan: lists(list(2, 0), list(1)), minutes: 10,
		l: sample(), key: "b", at: 30, w: api.Window{From: 3, To: 40}, text: "3 a start j\n5 a change m\n5 b stop\n",
	}
}

// random arguments are valid.
func random(r *rand.Rand) arguments {
	a := arguments{p: randomPrinters(r, 3), j: randomJobs(r, 4), minutes: r.Intn(9), at: r.Intn(40), w: api.Window{From: r.Intn(20), To: 20 + r.Intn(20)}}
	a.plan = randomPlan(r, len(a.p), len(a.j))
	a.l = randomEvents(r, a.p)
	a.key = a.p[r.Intn(len(a.p))].Key
	a.text, _ = farm.Text(a.l)
	return a
}

// odd is a number that may be anything.
func odd(r *rand.Rand) int {
	values := []int{
		least, least + 1, -1, 0, 1, 2, 3, 6, 7, api.MaxPrinters, api.MaxJobs, api.MaxMinutes, api.MaxMinutes + 1, maxDue, maxDue + 1,
		api.End - 1, api.End, api.End + 1, 1 << 31, 1 << 32, 1 << 62, greatest - 1, greatest,
	}
	return values[r.Intn(len(values))]
}

func oddText(r *rand.Rand) string {
	return []string{"", "a", "k000", "k001", "z", "A", "a b", "\n", "3 a stop", "3 a stop\n", "3 a\n", " ", "\xff", "3 \xff stop\n", "-"}[r.Intn(15)]
}

// spoilOne makes one thing something that may be anything.
func (a *arguments) spoilOne(r *rand.Rand) {
	switch r.Intn(10) {
	case 0:
		*[]*int{&a.minutes, &a.at, &a.w.From, &a.w.To}[r.Intn(4)] = odd(r)
	case 1:
		a.p = append(a.p, printer(oddText(r), oddText(r)))
	case 2:
		a.p = a.p[1:]
	case 3:
		a.j = append(a.j, job(oddText(r), oddText(r), odd(r), odd(r)))
	case 4:
		a.j = append(a.j, job("z", "m", odd(r), odd(r)))
	case 5:
		k := r.Intn(len(a.plan))
		a.plan[k] = append(a.plan[k], odd(r))
	case 6:
		a.l = append(a.l, api.Event{At: odd(r), Kind: odd(r), Printer: oddText(r), Job: oddText(r), Material: oddText(r)})
	case 7:
		a.l = append(a.l, randomEvent(r, odd(r), oddText(r)))
	case 8:
		a.key = oddText(r)
	case 9:
		a.text += oddText(r)
	}
}

// Z1, Z3, Z6: no arguments make a call panic, and with an error all else is zero.
func TestAnyArguments(t *testing.T) {
	r := rand.New(rand.NewSource(8))
	fine, wrong := make(map[string]int), make(map[string]int)
	for range 10_000 {
		a := random(r)
		for range r.Intn(4) {
			if len(a.p) > 0 {
				a.spoilOne(r)
			}
		}
		for _, f := range a.calls() {
			results, e := f.run()
			if e == api.OK {
				fine[f.name]++
				continue
			}
			wrong[f.name]++
			if e == api.ErrSyntax {
				results = results[:1] // the number of the line stays
			}
			if slices.ContainsFunc(results, func(x any) bool { return !isZero(x) }) {
				t.Fatal(f.name, a, results, e)
			}
		}
	}
	if len(fine) != 16 || len(wrong) != 16 {
		t.Error(fine, wrong)
	}
	for name := range fine {
		if fine[name] < 500 || wrong[name] < 200 {
			t.Error(name, fine[name], wrong[name])
		}
	}
}

// Z1: functions without objects can be called by several goroutines at once.
func TestSeveralGoroutines(t *testing.T) {
	var all sync.WaitGroup
	calls := valid().calls()
	for range 8 {
		all.Go(func() {
			for _, f := range calls {
				if _, e := f.run(); e != api.OK {
					t.Error(f.name, e)
				}
			}
		})
	}
	all.Wait()
}

// wide is a copy of a list with two more elements in the memory behind its length.
func wide[T any](list []T, behind T) []T {
	return append(slices.Clone(list), behind, behind)[:len(list)]
}

// widened are the arguments with something wrong behind the length of each list.
func (a arguments) widened() arguments {
	a.p, a.j, a.l = wide(a.p, api.Printer{}), wide(a.j, api.Job{}), wide(a.l, api.Event{At: -1})
	a.plan = wide(a.plan, list(-1))
	for k, order := range a.plan {
		a.plan[k] = wide(order, -1)
	}
	return a
}

// all are the arguments with what is behind the length of each list.
func (a arguments) all() arguments {
	a.p, a.j, a.l = a.p[:len(a.p)+2], a.j[:len(a.j)+2], a.l[:len(a.l)+2]
	a.plan = slices.Clone(a.plan[:len(a.plan)+2])
	for k, order := range a.plan[:len(a.plan)-2] {
		a.plan[k] = order[:len(order)+2]
	}
	return a
}

// spoil changes what is in lists, and in the memory behind them.
func spoil(v reflect.Value) {
	if v.Kind() != reflect.Slice {
		return
	}
	whole := v.Slice(0, v.Cap())
	for i := range whole.Len() {
		spoil(whole.Index(i))
		whole.Index(i).SetZero()
	}
}

// Z2: arguments stay as they are, and share no memory with results; what is behind the length of a list is neither looked at nor changed.
func TestOwnMemory(t *testing.T) {
	r := rand.New(rand.NewSource(9))
	for n := range 300 {
		a := random(r)
		if n == 0 {
			a = valid()
		}
		plain, wider, before := a.calls(), a.widened(), a.widened().all()
		for i, f := range wider.calls() {
			want, e := plain[i].run()
			results, again := f.run()
			if e != again || e != api.OK || !reflect.DeepEqual(results, want) {
				t.Fatal(f.name, a, results, want, e, again)
			}
			for _, x := range results {
				spoil(reflect.ValueOf(x))
			}
			if !reflect.DeepEqual(wider.all(), before) {
				t.Fatal(f.name, "changed an argument")
			}
			if next, _ := f.run(); !reflect.DeepEqual(next, want) {
				t.Fatal(f.name, "has kept its result")
			}
		}
	}
}

// Z5: an empty list and none are the same.
func TestEmptyLists(t *testing.T) {
	none := arguments{p: samplePrinters(), plan: make([][]int, 2), key: "a"}
	empty := arguments{p: samplePrinters(), j: []api.Job{}, plan: [][]int{{}, {}}, l: []api.Event{}, key: "a"}
	calls := none.calls()
	for i, f := range empty.calls() {
		got, e := f.run()
		want, again := calls[i].run()
		if e != api.OK || again != api.OK || len(got) != len(want) {
			t.Error(f.name, got, want, e, again)
		}
		for k, x := range got {
			if isZero(x) != isZero(want[k]) || !isZero(x) && !reflect.DeepEqual(x, want[k]) {
				t.Error(f.name, x, want[k])
			}
		}
	}
	fails(t, "no printers", api.ErrNone, withBoth(nil, nil, nil, 0)...)
	fails(t, "no printers", api.ErrNone, withBoth([]api.Printer{}, []api.Job{}, [][]int{}, 0)...)
}

// Z7: the same arguments give the same results, again and again.
func TestSameResults(t *testing.T) {
	r := rand.New(rand.NewSource(10))
	for range 100 {
		for _, f := range random(r).calls() {
			first, e := f.run()
			for range 10 {
				if next, again := f.run(); e != api.OK || again != api.OK || !reflect.DeepEqual(first, next) {
					t.Fatal(f.name, first, next, e, again)
				}
			}
		}
	}
}
