package path_test

import (
	"math/rand"
	"slices"
	"testing"

	"beadlayer/api"
	"beadlayer/path"
)

// wrongPaths are paths with each error of CheckPaths, at its bounds, and with several of them.
func wrongPaths() []struct {
	name string
	p    []api.Path
	e    api.Errno
} {
	at, none := open(0, 0), api.Path{}
	shut := func(p api.Path) api.Path { return api.Path{Points: p.Points, Closed: true} }
	farther := long(api.MaxRing + 1)
	farther.Points[0] = point(greatest, least)
	return []struct {
		name string
		p    []api.Path
		e    api.Errno
	}{
		{"too many paths", slices.Repeat(paths(at), api.MaxPaths+1), api.ErrLarge},
		{"too many paths, without points", slices.Repeat(paths(none), api.MaxPaths+1), api.ErrLarge},
		{"no points", paths(none), api.ErrNone},
		{"no points of a closed path", paths(at, closed()), api.ErrNone},
		{"too many points", paths(long(api.MaxRing + 1)), api.ErrLarge},
		{"too many points of a closed path", paths(shut(long(api.MaxRing + 1))), api.ErrLarge},
		{"too many points, too far", paths(farther), api.ErrLarge},
		{"a closed point", paths(closed(0, 0)), api.ErrForm},
		{"two points, closed", paths(at, closed(0, 0, 1, 1)), api.ErrForm},
		{"two points, closed, too far", paths(closed(far+1, 0, 1, 1)), api.ErrForm},
		{"X too far", paths(open(far+1, 0)), api.ErrArg},
		{"X too far below", paths(open(0, 0, -far-1, 0)), api.ErrArg},
		{"Y too far", paths(open(0, 0, 1, 1, 0, far+1)), api.ErrArg},
		{"Y too far below", paths(closed(0, 0, 1, 1, 0, -far-1)), api.ErrArg},
		{"much too far", paths(open(least, greatest)), api.ErrArg},
		{"the greatest X", paths(open(greatest, 0)), api.ErrArg},
		{"the least Y", paths(open(0, least)), api.ErrArg},
		{"the first of two: no points", paths(at, none, farther), api.ErrNone},
		{"the first of two: too many points", paths(farther, none), api.ErrLarge},
		{"the first of two: too few points", paths(closed(0, 0, 0, 0), none), api.ErrForm},
		{"the first of two: too far", paths(open(0, far+1), none), api.ErrArg},
	}
}

// P5.1: what is valid, at its bounds.
func TestCheckPaths(t *testing.T) {
	shut := long(api.MaxRing)
	shut.Closed = true
	for _, p := range [][]api.Path{
		nil,
		example(),
		slices.Repeat(paths(open(0, 0)), api.MaxPaths),
		paths(long(api.MaxRing), shut),
		paths(open(5, 5), open(5, 5, 5, 5), closed(5, 5, 5, 5, 5, 5)),
		paths(open(far, -far), closed(-far, far, far, far, -far, -far)),
	} {
		if e := path.CheckPaths(p); e != api.OK {
			t.Errorf("%.100v %v", p, e)
		}
	}
	for _, c := range wrongPaths() {
		if e := path.CheckPaths(c.p); e != c.e {
			t.Error(c.name, e)
		}
	}
}

// P5.1: all functions with paths return CheckPaths' error, before their own errors.
func TestWrongPaths(t *testing.T) {
	twice := visits(to(-1), to(-1))
	for _, c := range wrongPaths() {
		calls := append(withPaths(c.p, to(-1), twice), withStart(point(1, 2), c.p, twice, []int{-1}, nil, -1)...)
		for _, f := range calls {
			results, e := f.run()
			if e != c.e || slices.ContainsFunc(results, func(x any) bool { return !isZero(x) }) {
				t.Error(c.name, f.name, results, e)
			}
		}
	}
}

// P5.1: how long paths are; the greater one of both differences counts.
func TestLong(t *testing.T) {
	for _, c := range []struct {
		p       []api.Path
		lengths []int
		sum     int
	}{
		{nil, nil, 0},
		{example(), []int{10, 8}, 18},
		{paths(open(3, 4)), []int{0}, 0},
		{paths(open(0, 0, 3, 4)), []int{4}, 4},
		{paths(open(3, 4, 0, 0)), []int{4}, 4},
		{paths(open(0, 0, -5, 4)), []int{5}, 5},
		{paths(open(0, 0, 4, -5)), []int{5}, 5},
		{paths(open(1, 1, 4, 4)), []int{3}, 3},
		{paths(open(0, 0, 5, 1, 5, 1, 4, 9)), []int{13}, 13},
		{paths(open(0, 0, 4, 0, 4, 4), closed(0, 0, 4, 0, 4, 4)), []int{8, 12}, 20},
		{paths(closed(0, 0, 4, 0, 3, 6, 0, 7)), []int{20}, 20},
		{paths(closed(2, 2, 2, 2, 2, 2), open(-1, -1, -1, 9)), []int{0, 10}, 10},
		{paths(open(-far, -far, far, far), closed(-far, 0, far, 0, 0, far)), []int{2 * far, 4 * far}, 6 * far},
	} {
		lengths, sum, e := path.Long(c.p)
		if e != api.OK || sum != c.sum || !slices.Equal(lengths, c.lengths) {
			t.Error(c.p, lengths, sum, e)
		}
	}
}

// P5.1: the length of all that is printed, in whatever direction, and beginning anywhere.
func TestLongRandom(t *testing.T) {
	r := rand.New(rand.NewSource(1))
	for range 500 {
		p := randomPaths(r, r.Intn(6), 6)
		lengths, sum, e := path.Long(p)
		if e != api.OK || len(lengths) != len(p) {
			t.Fatal(p, lengths, e)
		}
		for i, length := range lengths {
			for _, v := range visitsOf(p, i) {
				all, e := path.Points(p, v)
				want := 0
				for k := 1; k < len(all); k++ {
					want += apart(all[k-1], all[k])
				}
				if e != api.OK || length != want {
					t.Fatal(p, i, length, want, e)
				}
			}
			sum -= length
		}
		if sum != 0 {
			t.Fatal(p, lengths)
		}
	}
}

// mixed are paths of each kind: two that are not closed, two that are, and a point.
func mixed() []api.Path {
	return paths(open(0, 0, 1, 1), closed(0, 0, 4, 0, 4, 4), open(7, 7, 8, 8, 9, 9), closed(1, 1, 2, 1, 2, 2, 1, 2), open(5, 5))
}

// P5.1: the errors of orders, at their bounds, and the first one of several.
func TestCheckOrder(t *testing.T) {
	p := mixed()
	rest := visits(to(2), to(3), to(4))
	for _, c := range []struct {
		name string
		o    []api.Visit
		e    api.Errno
	}{
		{"in turn", append(visits(to(0), to(1)), rest...), api.OK},
		{"other directions and beginnings", visits(from(3, 3), back(4), from(1, 2), back(0), back(2)), api.OK},
		{"no visits", nil, api.ErrForm},
		{"too few", visits(to(0), to(1), to(2), to(3)), api.ErrForm},
		{"too many", append(visits(to(0), to(1), to(2)), rest...), api.ErrForm},
		{"too few, and no such path", visits(to(-1)), api.ErrForm},
		{"no path below 0", append(visits(to(-1), to(1)), rest...), api.ErrArg},
		{"no path behind the last one", append(visits(to(0), to(5)), rest...), api.ErrArg},
		{"the least path", append(visits(to(0), to(least)), rest...), api.ErrArg},
		{"the greatest path", append(visits(to(0), to(greatest)), rest...), api.ErrArg},
		{"twice", append(visits(to(0), to(0)), rest...), api.ErrTwice},
		{"twice, and one between", visits(to(2), to(0), to(2), to(1), to(3)), api.ErrTwice},
		{"twice, in another direction", append(visits(to(0), back(0)), rest...), api.ErrTwice},
		{"twice, beginning elsewhere", append(visits(from(3, 1), to(0)), rest...), api.ErrTwice},
		{"twice, the second time with Start", append(visits(to(0), from(0, 1)), rest...), api.ErrTwice},
		{"closed and back", append(visits(to(0), back(1)), rest...), api.ErrForm},
		{"not closed, with Start", append(visits(from(0, 1), to(1)), rest...), api.ErrForm},
		{"not closed, with Start below 0", append(visits(from(0, -1), to(1)), rest...), api.ErrForm},
		{"not closed, with a great Start", append(visits(from(0, greatest), to(1)), rest...), api.ErrForm},
		{"a point with Start", visits(to(0), to(1), to(2), to(3), from(4, 1)), api.ErrForm},
		{"closed, back and no such Start", append(visits(to(0), api.Visit{Path: 1, Start: 3, Back: true}), rest...), api.ErrForm},
		{"not closed, back and with Start", append(visits(api.Visit{Start: 1, Back: true}, to(1)), rest...), api.ErrForm},
		{"the last Start", append(visits(to(0), from(1, 2)), rest...), api.OK},
		{"a Start behind the last one", append(visits(to(0), from(1, 3)), rest...), api.ErrArg},
		{"a Start below 0", append(visits(to(0), from(1, -1)), rest...), api.ErrArg},
		{"the least Start", append(visits(to(0), from(1, least)), rest...), api.ErrArg},
		{"the greatest Start", append(visits(to(0), from(1, greatest)), rest...), api.ErrArg},
		{"the first of two: no path", append(visits(to(-1), back(1)), rest...), api.ErrArg},
		{"the first of two: form", append(visits(back(1), to(-1)), rest...), api.ErrForm},
		{"the first of two: no Start", append(visits(from(1, 3), from(1, 3)), rest...), api.ErrArg},
		{"the first of two: twice", visits(to(0), to(0), to(-1), to(-1), back(1)), api.ErrTwice},
	} {
		if e := path.CheckOrder(p, c.o); e != c.e {
			t.Error(c.name, e)
		}
	}
	if e := path.CheckOrder(nil, nil); e != api.OK {
		t.Error(e)
	}
	if e := path.CheckOrder(nil, visits(to(0))); e != api.ErrForm {
		t.Error(e)
	}
	if e := path.CheckOrder(slices.Repeat(paths(open(0, 0)), api.MaxPaths), inTurn(api.MaxPaths)); e != api.OK {
		t.Error(e)
	}
}

// P5.2: where visits begin and end, and what they print.
func TestVisits(t *testing.T) {
	p := mixed()
	for _, c := range []struct {
		v      api.Visit
		points []api.Point
	}{
		{to(0), points(0, 0, 1, 1)},
		{back(0), points(1, 1, 0, 0)},
		{to(1), points(0, 0, 4, 0, 4, 4, 0, 0)},
		{from(1, 1), points(4, 0, 4, 4, 0, 0, 4, 0)},
		{from(1, 2), points(4, 4, 0, 0, 4, 0, 4, 4)},
		{to(2), points(7, 7, 8, 8, 9, 9)},
		{back(2), points(9, 9, 8, 8, 7, 7)},
		{from(3, 2), points(2, 2, 1, 2, 1, 1, 2, 1, 2, 2)},
		{to(4), points(5, 5)},
		{back(4), points(5, 5)},
	} {
		if got, e := path.Points(p, c.v); e != api.OK || !slices.Equal(got, c.points) {
			t.Error(c.v, got, e)
		}
		begin, end, e := path.Ends(p, c.v)
		if e != api.OK || begin != c.points[0] || end != c.points[len(c.points)-1] {
			t.Error(c.v, begin, end, e)
		}
	}
	shut := long(api.MaxRing)
	shut.Closed = true
	if got, e := path.Points(paths(shut), from(0, 499)); e != api.OK || len(got) != api.MaxRing+1 || got[0] != point(499, 2) || got[1] != point(0, 0) || got[500] != got[0] {
		t.Error(got, e)
	}
}

// P5.2: the errors of one visit.
func TestVisitErrors(t *testing.T) {
	p := mixed()
	for _, c := range []struct {
		v api.Visit
		e api.Errno
	}{
		{to(-1), api.ErrArg}, {to(5), api.ErrArg}, {to(least), api.ErrArg}, {to(greatest), api.ErrArg},
		{api.Visit{Path: 5, Start: 1, Back: true}, api.ErrArg},
		{back(1), api.ErrForm}, {api.Visit{Path: 1, Start: 3, Back: true}, api.ErrForm},
		{from(0, 1), api.ErrForm}, {from(0, -1), api.ErrForm}, {from(4, 1), api.ErrForm}, {api.Visit{Path: 2, Start: 2, Back: true}, api.ErrForm},
		{from(1, 3), api.ErrArg}, {from(1, -1), api.ErrArg}, {from(3, 4), api.ErrArg}, {from(3, least), api.ErrArg}, {from(3, greatest), api.ErrArg},
	} {
		if got, e := path.Points(p, c.v); e != c.e || len(got) > 0 {
			t.Error(c.v, got, e)
		}
		if begin, end, e := path.Ends(p, c.v); e != c.e || !isZero(begin) || !isZero(end) {
			t.Error(c.v, begin, end, e)
		}
	}
	if _, e := path.Points(nil, to(0)); e != api.ErrArg {
		t.Error(e)
	}
}
