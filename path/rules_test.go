package path_test

import (
	"math/rand"
	"reflect"
	"slices"
	"sync"
	"testing"

	"beadlayer/api"
	"beadlayer/path"
)

// odd is a number that may be anything.
func odd(r *rand.Rand) int {
	values := []int{least, least + 1, -1_000_001, -far - 1, -far, -1, 0, 1, 2, 3, 4, api.MaxExact, api.MaxPaths, api.MaxRing, far, far + 1, 1_000_000, 1_000_001, 1 << 31, 1 << 62, greatest}
	return values[r.Intn(len(values))]
}

// oddPaths may be invalid in any way.
func oddPaths(r *rand.Rand) []api.Path {
	p := randomPaths(r, r.Intn(5), 4)
	for i := range p {
		switch r.Intn(16) {
		case 0:
			p[i].Points = p[i].Points[:r.Intn(len(p[i].Points))]
		case 1:
			p[i].Points[0] = point(odd(r), odd(r))
		}
	}
	return p
}

// oddOrder may be invalid in any way.
func oddOrder(r *rand.Rand, p []api.Path) []api.Visit {
	var o []api.Visit
	for _, i := range r.Perm(len(p)) {
		v := api.Visit{Path: i, Back: !p[i].Closed && r.Intn(2) == 0}
		switch r.Intn(16) {
		case 0:
			v = api.Visit{Path: odd(r), Start: odd(r), Back: r.Intn(2) == 0}
		case 1:
			v.Start = odd(r)
		case 2:
			v.Back = !v.Back
		}
		o = append(o, v)
	}
	if r.Intn(16) == 0 {
		o = append(o, to(odd(r)))
	}
	return o
}

// oddRegion may be invalid in any way.
func oddRegion(r *rand.Rand) []api.Ring {
	all := randomRegion(r)
	switch r.Intn(8) {
	case 0:
		all[0][0] = point(odd(r), odd(r))
	case 1:
		all = append(all, nil, all[0])
	}
	return all
}

// Z1, Z3, Z6: no arguments make a call panic, and with an error all else is zero.
func TestAnyArguments(t *testing.T) {
	r := rand.New(rand.NewSource(13))
	fine := make(map[string]int)
	for range 5000 {
		p, rings, start, free := oddPaths(r), oddRegion(r), randomPoint(r), r.Intn(20)
		o, list, v := oddOrder(r, p), r.Perm(len(p)), api.Visit{Path: r.Intn(3), Back: r.Intn(2) == 0}
		switch r.Intn(6) {
		case 0:
			start = point(odd(r), odd(r))
		case 1:
			list, free = append(list, odd(r)), odd(r)
		case 2:
			v.Path, v.Start = odd(r), odd(r)
		}
		calls := append(withPaths(p, v, o), withStart(start, p, o, list, rings, free)...)
		for _, f := range append(calls, withWay(rings, start, point(odd(r), odd(r)))) {
			results, e := f.run()
			if e == api.OK {
				fine[f.name]++
			}
			for _, x := range results {
				if e != api.OK && !isZero(x) {
					t.Fatal(f.name, p, o, start, list, v, rings, free, x, e)
				}
			}
		}
	}
	for name, n := range fine {
		if n < 400 {
			t.Error(name, n)
		}
	}
}

// goodCalls are all functions, with arguments that are valid for up to MaxExact paths, the first one of which has the visit.
func goodCalls(p []api.Path, v api.Visit, o []api.Visit, list []int, r []api.Ring) []call {
	text, _ := path.Text(p)
	calls := append(withPaths(p, v, o), withStart(point(1, 2), p, o, list, r, 3)...)
	return append(calls, withWay(r, point(-3, 1), point(9, 2)), call{"Read", func() ([]any, api.Errno) {
		p, n, e := path.Read(text)
		return []any{p, n}, e
	}})
}

// mixedCalls are those with paths of each kind.
func mixedCalls() []call {
	return goodCalls(mixed(), from(1, 2), visits(from(3, 3), back(4), from(1, 2), back(0), back(2)), []int{4, 2, 0, 1, 3}, frame())
}

// Z1: functions without objects can be called by several goroutines at once.
func TestSeveralGoroutines(t *testing.T) {
	var all sync.WaitGroup
	calls := mixedCalls()
	for range 8 {
		all.Go(func() {
			for _, f := range calls {
				if _, e := f.run(); e != api.OK {
					t.Error(f.name, e)
				}
			}
		})
	}
	all.Wait()
}

// combs have the most corners that a region may have.
func combs() []api.Ring {
	var all []api.Ring
	for y := range 4 {
		var ring api.Ring
		for i := range api.MaxRing / 2 {
			ring = append(ring, point(2*i, 100*y+10*(i%2)))
		}
		for i := api.MaxRing/2 - 1; i >= 0; i-- {
			ring = append(ring, point(2*i, 100*y+10*(i%2)+5))
		}
		all = append(all, ring)
	}
	return all
}

// Z1: calls with the largest arguments return, too.
func TestLargest(t *testing.T) {
	r := rand.New(rand.NewSource(14))
	var p []api.Path
	var o []api.Visit
	for i := range api.MaxPaths {
		one := api.Path{Closed: true}
		for range api.MaxRing {
			one.Points = append(one.Points, point(r.Intn(2*far)-far, r.Intn(2*far)-far))
		}
		p, o = append(p, one), append(o, from(i, r.Intn(api.MaxRing)))
	}
	calls := append(withPaths(p, o[0], o), withStart(point(0, 0), p, o, r.Perm(len(p)), combs(), 0)...)
	for _, f := range append(calls, withWay(combs(), point(-1, -1), point(500, 311))) {
		want := api.OK
		if f.name == "Best" || f.name == "Text" {
			want = api.ErrLarge
		}
		if _, e := f.run(); e != want {
			t.Error(f.name, e)
		}
	}
	if b := got(path.Best(point(0, 0), p[:api.MaxExact])); b.e != api.OK || len(b.o) != api.MaxExact {
		t.Error(b)
	}
}

// spoil changes what is in lists, and in the memory behind them.
func spoil(v reflect.Value) {
	switch v.Kind() {
	case reflect.Slice:
		whole := v.Slice(0, v.Cap())
		for i := range whole.Len() {
			spoil(whole.Index(i))
		}
	case reflect.Struct:
		for i := range v.NumField() {
			spoil(v.Field(i))
		}
	default:
		if v.CanSet() {
			v.SetZero()
		}
	}
}

// wide is a copy of a list with two more elements in the memory behind its length.
func wide[L ~[]T, T any](list L, behind T) L {
	return append(slices.Clone(list), behind, behind)[:len(list)]
}

// keeps reports whether a wide list is as the plain one, and what is behind it as it was.
func keeps[L ~[]T, T comparable](wider, list L, behind T) bool {
	return slices.Equal(wider, list) && slices.Equal(wider[:len(list)+2][len(list):], L{behind, behind})
}

func widePaths(p []api.Path) []api.Path {
	var all []api.Path
	for _, one := range p {
		all = append(all, api.Path{Points: wide(one.Points, point(greatest, 1)), Closed: one.Closed})
	}
	return wide(all, open(0, 0))
}

func keepsPaths(wider, p []api.Path) bool {
	if !samePaths(wider[:len(p)+2], append(slices.Clone(p), open(0, 0), open(0, 0))) {
		return false
	}
	for i, one := range p {
		if !keeps(wider[i].Points, one.Points, point(greatest, 1)) {
			return false
		}
	}
	return true
}

func wideRings(r []api.Ring) []api.Ring {
	var all []api.Ring
	for _, ring := range r {
		all = append(all, wide(ring, point(greatest, 1)))
	}
	return wide(all, nil)
}

func keepsRings(wider, r []api.Ring) bool {
	for i, ring := range r {
		if !keeps(wider[i], ring, point(greatest, 1)) {
			return false
		}
	}
	return len(wider) == len(r) && wider[:len(r)+2][len(r)] == nil
}

// Z2: arguments stay as they are, and share no memory with results; what is behind the length of a list is neither looked at nor changed.
func TestOwnMemory(t *testing.T) {
	r := rand.New(rand.NewSource(15))
	for range 300 {
		p, rings := randomPaths(r, 1+r.Intn(api.MaxExact), 4), randomRegion(r)
		o, list := randomOrder(r, p), r.Perm(len(p))
		v := visitsOf(p, 0)[1]
		plain := goodCalls(p, v, o, list, rings)
		wideP, wideO, wideL, wideR := widePaths(p), wide(o, to(0)), wide(list, -1), wideRings(rings)
		for i, f := range goodCalls(wideP, v, wideO, wideL, wideR) {
			results, e := f.run()
			want, again := plain[i].run()
			if e != api.OK || again != api.OK || !reflect.DeepEqual(results, want) {
				t.Fatal(f.name, p, o, list, rings, results, want, e, again)
			}
			for _, x := range results {
				spoil(reflect.ValueOf(x))
			}
			if !keepsPaths(wideP, p) || !keeps(wideO, o, to(0)) || !keeps(wideL, list, -1) || !keepsRings(wideR, rings) {
				t.Fatal(f.name, "changed an argument")
			}
			if next, _ := f.run(); !reflect.DeepEqual(next, want) {
				t.Fatal(f.name, "has kept its result")
			}
		}
	}
}

// Z2: the lists of one result share no memory with each other.
func TestListsApart(t *testing.T) {
	p := paths(open(5, 5, 6, 6), open(0, 0, 1, 1), open(1, 1, 2, 2, 3, 3), closed(0, 0, 4, 0, 4, 4), open(7, 7))
	text, _ := path.Text(p)
	read, _, _ := path.Read(text)
	chained, _ := path.Chained(p)
	joined := paths(p[0], open(0, 0, 1, 1, 2, 2, 3, 3), p[3], p[4])
	for _, c := range [][2][]api.Path{{read, p}, {chained, joined}} {
		for i := range c[0] {
			if !samePaths(c[0][i:], c[1][i:]) {
				t.Fatal(c)
			}
			spoil(reflect.ValueOf(c[0][i].Points))
		}
	}
}

// Z5: an empty list and none are the same.
func TestEmptyLists(t *testing.T) {
	none := goodCalls(nil, to(0), nil, nil, nil)
	for i, f := range goodCalls([]api.Path{}, to(0), []api.Visit{}, []int{}, []api.Ring{}) {
		want, e := none[i].run()
		alone := e != api.OK && f.name != "Ends" && f.name != "Points"
		if got, again := f.run(); alone || again != e || !reflect.DeepEqual(got, want) {
			t.Error(f.name, got, want, again, e)
		}
	}
	if e := path.CheckPaths([]api.Path{{Points: []api.Point{}}}); e != api.ErrNone {
		t.Error(e)
	}
}

// Z7: the same arguments give the same results, again and again.
func TestSameResults(t *testing.T) {
	r := rand.New(rand.NewSource(16))
	calls := mixedCalls()
	for range 30 {
		p := randomPaths(r, 1+r.Intn(api.MaxExact), 4)
		calls = append(calls, goodCalls(p, to(0), randomOrder(r, p), r.Perm(len(p)), randomRegion(r))...)
	}
	for _, f := range calls {
		first, e := f.run()
		for range 10 {
			if next, again := f.run(); e != api.OK || again != api.OK || !reflect.DeepEqual(first, next) {
				t.Fatal(f.name, first, next, e, again)
			}
		}
	}
}
