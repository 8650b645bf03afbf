package code_test

import (
	"math/rand"
	"reflect"
	"slices"
	"sync"
	"testing"

	"beadlayer/api"
	"beadlayer/code"
)

// arguments are those of all functions.
type arguments struct {
	s, b       []api.Step
	coldest, n int
	p          []api.Path
	o          []api.Visit
	z, flow    int
	text       string
}

func (a arguments) calls() []call {
	calls := append(withSteps(a.s), withOthers(a.s, a.coldest, a.n)...)
	calls = append(calls, withTwo(a.s, a.b)...)
	return append(calls, made(a.p, a.o, a.z, a.flow), read(a.text))
}

// valid arguments with which all functions have results, all of them with something in them.
func valid() arguments {
	return arguments{
		s: append(sample(), prints(1, 1, 3), move(0, 0), prints(0, 1, 2), wait(5)), b: append(sample(), prints(1, 1, 3), relative(), wait(0), move(0, 0), prints(0, 1, 2), wait(5)),
		coldest: 200, n: 1, p: []api.Path{open(0, 0, 5, 5), closed(1, 1, 4, 1, 4, 3)}, o: []api.Visit{{Path: 1, Start: 2}, {Path: 0, Back: true}}, z: 200, flow: 700, text: sampleText,
	}
}

// random arguments are valid.
func random(r *rand.Rand) arguments {
	var a arguments
	a.s, a.b = append(randomSteps(r, 20), layer(1), move(1, 1)), randomSteps(r, 20)
	a.coldest, a.n = r.Intn(4), 1
	a.p, a.o = randomPaths(r)
	a.z, a.flow = r.Intn(9), r.Intn(900)
	a.text, _ = code.Text(a.b)
	return a
}

// odd is a number that may be anything.
func odd(r *rand.Rand) int {
	values := []int{
		least, least + 1, -api.MaxZ - 1, -farther - 1, -far - 1, -1, 0, 1, 2, 3, 9, 10, api.MaxHeat, api.MaxHeat + 1, api.MaxSpeed, api.MaxSpeed + 1,
		farther, farther + 1, api.MaxZ, api.MaxZ + 1, api.MaxWait, api.MaxWait + 1, api.MaxFlow, api.MaxFlow + 1, 1 << 31, 1 << 32, 1 << 62, greatest - 1, greatest,
	}
	return values[r.Intn(len(values))]
}

func oddStep(r *rand.Rand) api.Step {
	s := randomStep(r)
	*[]*int{&s.Kind, &s.X, &s.Y, &s.Z, &s.Flow, &s.N}[r.Intn(6)] = odd(r)
	return s
}

func oddText(r *rand.Rand) string {
	return []string{"", "move 1 2\n", "move 1 2", "move 1\n", "\n", "layer -1\n", "speed 0\n", " ", "\xff", "tool 10\n", "absolute\n", "absolute 1\n"}[r.Intn(12)]
}

// spoilOne makes one thing something that may be anything.
func (a *arguments) spoilOne(r *rand.Rand) {
	switch r.Intn(6) {
	case 0:
		*[]*int{&a.coldest, &a.n, &a.z, &a.flow}[r.Intn(4)] = odd(r)
	case 1:
		a.s[r.Intn(len(a.s))] = oddStep(r)
	case 2:
		a.b = append(a.b, oddStep(r))
	case 3:
		a.p = append(a.p, open(odd(r), odd(r), 1, 1))
	case 4:
		a.o = append(a.o, api.Visit{Path: odd(r), Start: odd(r), Back: r.Intn(2) == 0})
	case 5:
		a.text += oddText(r)
	}
}

// Z1, Z3, Z6: no arguments make a call panic, and with an error all else is zero.
func TestAnyArguments(t *testing.T) {
	r := rand.New(rand.NewSource(13))
	fine, wrong := make(map[string]int), make(map[string]int)
	for range 10_000 {
		a := random(r)
		for range r.Intn(4) {
			a.spoilOne(r)
		}
		for _, f := range a.calls() {
			results, e := f.run()
			if e == api.OK {
				fine[f.name]++
				continue
			}
			wrong[f.name]++
			if e == api.ErrSyntax {
				results = results[:1] // the number of the line stays
			}
			if slices.ContainsFunc(results, func(x any) bool { return !isZero(x) }) {
				t.Fatal(f.name, a, results, e)
			}
		}
	}
	if len(fine) != 15 || len(wrong) != 15 {
		t.Error(fine, wrong)
	}
	for name := range fine {
		if fine[name] < 500 || wrong[name] < 200 {
			t.Error(name, fine[name], wrong[name])
		}
	}
}

// Z1: functions without objects can be called by several goroutines at once.
func TestSeveralGoroutines(t *testing.T) {
	var all sync.WaitGroup
	calls := valid().calls()
	for range 8 {
		all.Go(func() {
			for _, f := range calls {
				if _, e := f.run(); e != api.OK {
					t.Error(f.name, e)
				}
			}
		})
	}
	all.Wait()
}

// wide is a copy of a list with two more elements in the memory behind its length.
func wide[T any](list []T, behind T) []T {
	return append(slices.Clone(list), behind, behind)[:len(list)]
}

// widened are the arguments with something wrong behind the length of each list.
func (a arguments) widened() arguments {
	a.s, a.b, a.o = wide(a.s, api.Step{}), wide(a.b, api.Step{}), wide(a.o, api.Visit{Path: -1})
	p := slices.Clone(a.p)
	for i := range p {
		p[i].Points = wide(p[i].Points, api.Point{X: 1 << 40})
	}
	a.p = wide(p, api.Path{})
	return a
}

// all are the arguments with what is behind the length of each list.
func (a arguments) all() arguments {
	a.s, a.b, a.o = a.s[:len(a.s)+2], a.b[:len(a.b)+2], a.o[:len(a.o)+2]
	p := slices.Clone(a.p[:len(a.p)+2])
	for i := range a.p {
		p[i].Points = p[i].Points[:len(p[i].Points)+2]
	}
	a.p = p
	return a
}

// spoil changes what is in lists, and in the memory behind them.
func spoil(v reflect.Value) {
	switch v.Kind() {
	case reflect.Struct:
		for i := range v.NumField() {
			spoil(v.Field(i))
		}
	case reflect.Slice:
		whole := v.Slice(0, v.Cap())
		for i := range whole.Len() {
			spoil(whole.Index(i))
			whole.Index(i).SetZero()
		}
	}
}

// Z2: arguments stay as they are, and share no memory with results; what is behind the length of a list is neither looked at nor changed.
func TestOwnMemory(t *testing.T) {
	r := rand.New(rand.NewSource(14))
	for n := range 300 {
		a := random(r)
		if n == 0 {
			a = valid()
		}
		plain, wider, before := a.calls(), a.widened(), a.widened().all()
		for i, f := range wider.calls() {
			want, e := plain[i].run()
			results, again := f.run()
			if e != again || e != api.OK || !reflect.DeepEqual(results, want) {
				t.Fatal(f.name, a, results, want, e, again)
			}
			for _, x := range results {
				if v := reflect.ValueOf(x); v.Kind() == reflect.Slice {
					spoil(v)
				}
			}
			if !reflect.DeepEqual(wider.all(), before) {
				t.Fatal(f.name, "changed an argument")
			}
			if next, _ := f.run(); !reflect.DeepEqual(next, want) {
				t.Fatal(f.name, "has kept its result")
			}
		}
	}
}

// Z5: an empty list and none are the same.
func TestEmptyLists(t *testing.T) {
	empty := arguments{s: []api.Step{}, b: []api.Step{}, p: []api.Path{}, o: []api.Visit{}}
	calls := arguments{}.calls()
	for i, f := range empty.calls() {
		got, e := f.run()
		want, again := calls[i].run()
		if e != again || e != api.OK && f.name != "Layer" || len(got) != len(want) {
			t.Error(f.name, got, want, e, again)
		}
		for k, x := range got {
			if isZero(x) != isZero(want[k]) || !isZero(x) && !reflect.DeepEqual(x, want[k]) {
				t.Error(f.name, x, want[k])
			}
		}
	}
}

// Z7: the same arguments give the same results, again and again.
func TestSameResults(t *testing.T) {
	r := rand.New(rand.NewSource(15))
	for range 100 {
		for _, f := range random(r).calls() {
			first, e := f.run()
			for range 10 {
				if next, again := f.run(); e != api.OK || again != api.OK || !reflect.DeepEqual(first, next) {
					t.Fatal(f.name, first, next, e, again)
				}
			}
		}
	}
}
