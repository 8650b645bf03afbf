package motion_test

import (
	"math/rand"
	"reflect"
	"slices"
	"sync"
	"testing"

	"beadlayer/api"
	"beadlayer/motion"
)

// odd is a number that may be anything.
func odd(r *rand.Rand) int {
	values := []int{least, least + 1, -far - 1, -far, -1, 0, 1, 2, 3, 4, api.MaxLegs, far, far + 1, api.MaxLeg, api.MaxLeg + 1, api.MaxChange, api.MaxChange + 1, 1 << 31, 1 << 32, 1 << 62, greatest}
	return values[r.Intn(len(values))]
}

// oddMoves may be invalid in any way.
func oddMoves(r *rand.Rand) moves {
	m := anyMoves(r)
	switch r.Intn(12) {
	case 0:
		m.l[r.Intn(len(m.l))] = leg(odd(r), odd(r))
	case 1:
		m.corners = append(m.corners, odd(r))
	case 2:
		m.change = odd(r)
	case 3:
		for i := range m.corners {
			m.corners[i] = odd(r)
		}
	case 4:
		m.l = nil
	}
	return m
}

// oddPath may be invalid in any way.
func oddPath(r *rand.Rand) api.Path {
	p := api.Path{Closed: r.Intn(3) == 0}
	for range r.Intn(9) {
		p.Points = append(p.Points, point(r.Intn(5), r.Intn(5)))
		if r.Intn(32) == 0 {
			p.Points[0] = point(odd(r), odd(r))
		}
	}
	return p
}

func callsWith(m moves, v []int, leg, at, from, to int, l api.Leg, p api.Path, limit int) []call {
	calls := append(withoutChange(m, leg, at), withChange(m, v)...)
	calls = append(calls, withLeg(from, to, l, m.change)...)
	return append(append(calls, withPath(p, limit)...), brake(from, m.change))
}

// Z1, Z3, Z6: no arguments make a call panic, and with an error all else is zero.
func TestAnyArguments(t *testing.T) {
	r := rand.New(rand.NewSource(12))
	fine := make(map[string]int)
	for range 10_000 {
		m := oddMoves(r)
		v, _ := motion.Speeds(m.l, m.corners, m.change)
		leg, at, from, to, limit := r.Intn(3), 1+r.Intn(3), r.Intn(3), r.Intn(3), 1+r.Intn(9)
		switch r.Intn(4) {
		case 0:
			leg, at = odd(r), odd(r)
		case 1:
			from, to, limit = odd(r), odd(r), odd(r)
		case 2:
			for i := range v {
				v[i] = odd(r)
			}
		}
		one := append(slices.Clone(m.l), api.Leg{Long: odd(r), Limit: odd(r)})[0]
		for _, f := range callsWith(m, v, leg, at, from, to, one, oddPath(r), limit) {
			results, e := f.run()
			if e == api.OK {
				fine[f.name]++
			}
			for _, x := range results {
				if e != api.OK && !isZero(x) {
					t.Fatal(f.name, m, v, leg, at, from, to, one, limit, x, e)
				}
			}
		}
	}
	if len(fine) != 13 {
		t.Error(fine)
	}
	for name, n := range fine {
		if n < 1000 {
			t.Error(name, n)
		}
	}
}

// goodCalls are all functions, with arguments that are valid for moves with speeds that keep the limits, if the first leg is long enough.
func goodCalls(m moves, v []int, p api.Path) []call {
	return callsWith(m, v, 0, 1, v[0], v[1], m.l[0], p, 5)
}

// bend is a path with several legs and corners.
func bend() api.Path { return closed(0, 0, 0, 0, 5, 0, 9, 4, 9, 9, 3, 2) }

func splittable(r *rand.Rand) moves {
	m := anyMoves(r)
	m.l[0].Long = max(m.l[0].Long, 2)
	return m
}

// Z1: functions without objects can be called by several goroutines at once.
func TestSeveralGoroutines(t *testing.T) {
	var all sync.WaitGroup
	m := moves{legs(100, 100, 50, 50, 8, 100), list(60, 100), 50}
	calls := goodCalls(m, list(0, 50, 28, 0), bend())
	for range 8 {
		all.Go(func() {
			for _, f := range calls {
				if _, e := f.run(); e != api.OK {
					t.Error(f.name, e)
				}
			}
		})
	}
	all.Wait()
}

// Z1, Z6: calls with the largest arguments return, too, and their numbers do not overflow.
func TestLargest(t *testing.T) {
	r := rand.New(rand.NewSource(13))
	p := api.Path{Closed: true}
	for range api.MaxRing {
		p.Points = append(p.Points, point(r.Intn(2*far+1)-far, r.Intn(2*far+1)-far))
	}
	for _, m := range []moves{
		randomMoves(r, api.MaxLegs-1, api.MaxLeg, api.MaxSpeed, api.MaxChange),
		randomMoves(r, api.MaxLegs-1, 5, api.MaxSpeed, 5),
		{slices.Repeat(legs(api.MaxLeg, api.MaxSpeed), api.MaxLegs-1), slices.Repeat(list(api.MaxSpeed), api.MaxLegs-2), api.MaxChange},
		{slices.Repeat(legs(api.MaxLeg, api.MaxSpeed), api.MaxLegs-1), slices.Repeat(list(api.MaxSpeed), api.MaxLegs-2), 1},
	} {
		v, e := motion.Speeds(m.l, m.corners, m.change)
		if e != api.OK || !slices.Equal(v, m.fastest()) {
			t.Fatal(e)
		}
		for _, f := range callsWith(m, v, 5, 1, v[5], v[6], m.l[5], p, api.MaxSpeed) {
			if _, e := f.run(); e != api.OK && f.name != "Split" {
				t.Error(f.name, e)
			}
		}
	}
	slowest := slices.Repeat(legs(api.MaxLeg, 1), api.MaxLegs)
	if total, e := motion.Total(slowest, make([]int, api.MaxLegs-1), 1); e != api.OK || total != api.MaxLegs*200_001_000_000 {
		t.Error(total, e)
	}
}

// The values that chapter 6 makes are taken by its functions, up to their limits.
func TestMostLegs(t *testing.T) {
	l, corners, e := motion.Split(slices.Repeat(legs(9, 9), api.MaxLegs-1), make([]int, api.MaxLegs-2), 3, 4)
	if e != api.OK || len(l) != api.MaxLegs {
		t.Fatal(len(l), e)
	}
	l, corners, e = motion.Back(l, corners)
	v, again := motion.Speeds(l, corners, 5)
	if e != api.OK || again != api.OK || len(v) != api.MaxLegs+1 {
		t.Fatal(len(v), e, again)
	}
	if kept, e := motion.Kept(l, corners, v, 5); !kept || e != api.OK {
		t.Error(kept, e)
	}
	if places, e := motion.Slow(l, corners, v, 5); len(places) > 0 || e != api.OK {
		t.Error(places, e)
	}
}

// spoil changes what is in lists, and in the memory behind them.
func spoil(v reflect.Value) {
	if v.Kind() != reflect.Slice {
		return
	}
	whole := v.Slice(0, v.Cap())
	for i := range whole.Len() {
		whole.Index(i).SetZero()
	}
}

// wide is a copy of a list with two more elements in the memory behind its length.
func wide[T any](list []T, behind T) []T {
	return append(slices.Clone(list), behind, behind)[:len(list)]
}

// keeps reports whether a wide list is as the plain one, and what is behind it as it was.
func keeps[T comparable](wider, list []T, behind T) bool {
	return slices.Equal(wider[:len(list)+2], append(slices.Clone(list), behind, behind)) && len(wider) == len(list)
}

// Z2: arguments stay as they are, and share no memory with results; what is behind the length of a list is neither looked at nor changed.
func TestOwnMemory(t *testing.T) {
	r := rand.New(rand.NewSource(14))
	for range 300 {
		m, p := splittable(r), bend()
		v := m.fastest()
		plain := goodCalls(m, v, p)
		wideM := moves{wide(m.l, leg(0, greatest)), wide(m.corners, -1), m.change}
		wideV, wideP := wide(v, -1), api.Path{Points: wide(p.Points, point(greatest, 0)), Closed: p.Closed}
		for i, f := range goodCalls(wideM, wideV, wideP) {
			results, e := f.run()
			want, again := plain[i].run()
			if e != api.OK || again != api.OK || !reflect.DeepEqual(results, want) {
				t.Fatal(f.name, m, v, results, want, e, again)
			}
			for _, x := range results {
				spoil(reflect.ValueOf(x))
			}
			if !keeps(wideM.l, m.l, leg(0, greatest)) || !keeps(wideM.corners, m.corners, -1) || !keeps(wideV, v, -1) || !keeps(wideP.Points, p.Points, point(greatest, 0)) {
				t.Fatal(f.name, "changed an argument")
			}
			if next, _ := f.run(); !reflect.DeepEqual(next, want) {
				t.Fatal(f.name, "has kept its result")
			}
		}
	}
}

// Z5: an empty list and none are the same.
func TestEmptyLists(t *testing.T) {
	one, none := moves{legs(9, 9), nil, 5}, moves{legs(9, 9), []int{}, 5}
	plain := goodCalls(one, list(0, 0), bend())
	for i, f := range goodCalls(none, list(0, 0), bend()) {
		want, e := plain[i].run()
		if got, again := f.run(); e != api.OK || again != e || !reflect.DeepEqual(got, want) {
			t.Error(f.name, got, want, e, again)
		}
	}
	if e := motion.CheckLegs([]api.Leg{}); e != api.ErrNone {
		t.Error(e)
	}
	fails(t, "no legs", api.ErrNone, append(withoutChange(moves{[]api.Leg{}, []int{}, 1}, 0, 1), withChange(moves{[]api.Leg{}, []int{}, 1}, []int{})...)...)
	fails(t, "no points", api.ErrNone, withPath(api.Path{Points: []api.Point{}}, 5)...)
	fails(t, "no speeds", api.ErrForm, withChange(one, []int{})[4:]...)
}

// Z7: the same arguments give the same results, again and again.
func TestSameResults(t *testing.T) {
	r := rand.New(rand.NewSource(15))
	for range 100 {
		m := splittable(r)
		for _, f := range goodCalls(m, m.fastest(), bend()) {
			first, e := f.run()
			for range 10 {
				if next, again := f.run(); e != api.OK || again != api.OK || !reflect.DeepEqual(first, next) {
					t.Fatal(f.name, first, next, e, again)
				}
			}
		}
	}
}
