package path_test

import (
	"math/big"
	"math/rand"
	"slices"
	"testing"

	"beadlayer/api"
	"beadlayer/path"
	"beadlayer/region"
)

// frame is a square with a hole.
func frame() []api.Ring {
	return []api.Ring{square(0, 0, 10), points(4, 4, 4, 6, 6, 6, 6, 4)}
}

// P5.4: how many sides a way has a point in common with.
func TestMeets(t *testing.T) {
	triangle := []api.Ring{points(0, 0, 8, 0, 0, 4)}
	for _, c := range []struct {
		name string
		r    []api.Ring
		a, b api.Point
		n    int
	}{
		{"no rings", nil, point(0, 0), point(5, 5), 0},
		{"outside", frame(), point(-5, -5), point(20, -5), 0},
		{"inside", frame(), point(1, 1), point(9, 3), 0},
		{"in the hole", frame(), point(5, 5), point(5, 5), 0},
		{"out", frame(), point(2, 2), point(2, -9), 1},
		{"into the hole", frame(), point(2, 5), point(5, 5), 1},
		{"over the hole", frame(), point(2, 5), point(8, 5), 2},
		{"over all", frame(), point(-2, 5), point(12, 5), 4},
		{"over all, back", frame(), point(12, 5), point(-2, 5), 4},
		{"over corners", frame(), point(-1, -1), point(11, 11), 8},
		{"up to a side", frame(), point(2, 2), point(2, 0), 1},
		{"not quite to a side", frame(), point(2, 2), point(2, 1), 0},
		{"up to a corner", frame(), point(2, 2), point(0, 0), 2},
		{"along a side", frame(), point(2, 0), point(8, 0), 1},
		{"along a whole side", frame(), point(0, 0), point(10, 0), 3},
		{"beyond a side on its line", frame(), point(-4, 0), point(14, 0), 3},
		{"on the line of a side", frame(), point(11, 0), point(14, 0), 0},
		{"on the line of a side up to it", frame(), point(10, 0), point(14, 0), 2},
		{"past a corner", frame(), point(-1, 1), point(1, -1), 2},
		{"not quite at a corner", frame(), point(-2, 1), point(1, -2), 0},
		{"a point on a side", frame(), point(10, 5), point(10, 5), 1},
		{"a point on a corner", frame(), point(6, 6), point(6, 6), 2},
		{"a point on the line of a side", frame(), point(12, 10), point(12, 10), 0},
		{"a point inside", frame(), point(1, 9), point(1, 9), 0},
		{"a point on a sloped side", triangle, point(4, 2), point(4, 2), 1},
		{"a point in the box of a sloped side", triangle, point(4, 1), point(4, 1), 0},
		{"along a sloped side", triangle, point(2, 3), point(6, 1), 1},
		{"beside a sloped side", triangle, point(2, 4), point(6, 2), 0},
		{"to the middle of a sloped side", triangle, point(9, 9), point(4, 2), 1},
		{"the farthest points", []api.Ring{square(-far, -far, 2*far)}, point(-far, far), point(far, -far), 4},
		{"far, and not quite", []api.Ring{points(-far, -far, far, far-1, far, far)}, point(-far+1, -far), point(far, far-2), 0},
	} {
		if n, e := path.Meets(c.r, c.a, c.b); e != api.OK || n != c.n {
			t.Error(c.name, n, e)
		}
	}
}

// onWay reports whether a point is on the straight way between two others.
func onWay(p, a, b api.Point) bool {
	turn := (b.X-a.X)*(p.Y-a.Y) - (b.Y-a.Y)*(p.X-a.X)
	return turn == 0 && p.X >= min(a.X, b.X) && p.X <= max(a.X, b.X) && p.Y >= min(a.Y, b.Y) && p.Y <= max(a.Y, b.Y)
}

// common reports whether two ways have a point in common: an end of one of them, or the point where their lines meet.
func common(a, b, c, d api.Point) bool {
	if onWay(a, c, d) || onWay(b, c, d) || onWay(c, a, b) || onWay(d, a, b) {
		return true
	}
	den := (b.X-a.X)*(d.Y-c.Y) - (b.Y-a.Y)*(d.X-c.X)
	if den == 0 {
		return false
	}
	one, none := big.NewRat(1, 1), new(big.Rat)
	s := big.NewRat(int64((c.X-a.X)*(d.Y-c.Y)-(c.Y-a.Y)*(d.X-c.X)), int64(den))
	u := big.NewRat(int64((c.X-a.X)*(b.Y-a.Y)-(c.Y-a.Y)*(b.X-a.X)), int64(den))
	return s.Cmp(none) >= 0 && s.Cmp(one) <= 0 && u.Cmp(none) >= 0 && u.Cmp(one) <= 0
}

func slowMeets(r []api.Ring, a, b api.Point) int {
	n := 0
	for _, ring := range r {
		for i := range ring {
			if common(a, b, ring[i], ring[(i+1)%len(ring)]) {
				n++
			}
		}
	}
	return n
}

// randomRegion has one or two rings near 0, 0.
func randomRegion(r *rand.Rand) []api.Ring {
	for {
		var all []api.Ring
		for range 1 + r.Intn(2) {
			var ring api.Ring
			for range 3 + r.Intn(3) {
				ring = append(ring, randomPoint(r))
			}
			all = append(all, ring)
		}
		if region.CheckRegion(all) == api.OK {
			return all
		}
	}
}

func TestMeetsRandom(t *testing.T) {
	r := rand.New(rand.NewSource(8))
	counts := make(map[int]int)
	for range 1000 {
		rings := randomRegion(r)
		for range 20 {
			a, b := randomPoint(r), randomPoint(r)
			want := slowMeets(rings, a, b)
			counts[want]++
			if n, e := path.Meets(rings, a, b); e != api.OK || n != want {
				t.Fatal(rings, a, b, n, want, e)
			}
		}
	}
	for n := range 5 {
		if counts[n] < 100 {
			t.Error(counts)
		}
	}
}

// P5.4: the errors of Meets, in their order.
func TestMeetsErrors(t *testing.T) {
	crossed := []api.Ring{points(0, 0, 4, 4, 4, 0, 0, 4)}
	for _, c := range []struct {
		r    []api.Ring
		a, b api.Point
		e    api.Errno
	}{
		{frame(), point(far, -far), point(-far, far), api.OK},
		{[]api.Ring{{}}, point(far+1, 0), point(0, 0), api.ErrForm},
		{crossed, point(far+1, 0), point(0, 0), api.ErrConflict},
		{slices.Repeat(frame(), 51), point(far+1, 0), point(0, 0), api.ErrLarge},
		{frame()[:1], point(far+1, 0), point(0, 0), api.ErrArg},
		{nil, point(-far-1, 0), point(0, 0), api.ErrArg},
		{nil, point(0, far+1), point(0, 0), api.ErrArg},
		{nil, point(0, -far-1), point(0, 0), api.ErrArg},
		{nil, point(0, 0), point(far+1, 0), api.ErrArg},
		{nil, point(0, 0), point(-far-1, 0), api.ErrArg},
		{nil, point(0, 0), point(0, far+1), api.ErrArg},
		{nil, point(0, 0), point(0, -far-1), api.ErrArg},
		{nil, point(least, greatest), point(greatest, least), api.ErrArg},
	} {
		n, e := path.Meets(c.r, c.a, c.b)
		if e != c.e || e != api.OK && n != 0 {
			t.Error(c, n, e)
		}
	}
}

// P5.4: the visits to which the head travels farther than free, or over a side.
func TestRetractions(t *testing.T) {
	o := visits(back(1), to(0))
	both := visits(to(0), to(1))
	wall := []api.Ring{square(4, -5, 2)}
	for _, c := range []struct {
		name  string
		r     []api.Ring
		start api.Point
		p     []api.Path
		o     []api.Visit
		free  int
		want  []int
	}{
		{"no paths", frame(), point(0, 0), nil, nil, 0, nil},
		{"near", nil, point(0, 0), example(), o, 1, nil},
		{"a bit too far", nil, point(0, 0), example(), o, 0, []int{0, 1}},
		{"the first one too far", nil, point(-1, 0), example(), o, 1, []int{0}},
		{"the second one too far", nil, point(0, 0), example(), both, 10, []int{1}},
		{"just not too far", nil, point(0, 0), example(), both, 11, nil},
		{"not at all", nil, point(10, 0), example()[:1], inTurn(1), 0, nil},
		{"over no side", wall, point(0, 0), example(), both, 20, nil},
		{"over a side", []api.Ring{square(4, -1, 2)}, point(0, 0), example(), both, 20, []int{0}},
		{"back over a side", []api.Ring{square(14, -1, 2)}, point(0, 0), example(), both, 20, []int{1}},
		{"what is printed may meet sides", []api.Ring{square(14, 3, 2)}, point(0, 0), example(), both, 20, nil},
		{"printing over sides", []api.Ring{square(14, -5, 20)}, point(9, 0), example()[:1], inTurn(1), 20, nil},
		{"no way, at a side", []api.Ring{square(10, -1, 2)}, point(10, 0), example()[:1], inTurn(1), 20, []int{0}},
		{"up to a corner", []api.Ring{square(10, 0, 2)}, point(9, 0), example()[:1], inTurn(1), 20, []int{0}},
		{"inside of all sides", []api.Ring{square(-50, -50, 100)}, point(0, 0), example(), both, 20, nil},
		{"a corner of a closed path", []api.Ring{square(1, 1, 2)}, point(4, 4), paths(closed(0, 0, 4, 0, 4, 4), open(0, 4)), visits(from(0, 2), to(1)), 9, nil},
		{"another corner of a closed path", []api.Ring{square(1, 1, 2)}, point(4, 4), paths(closed(0, 0, 4, 0, 4, 4), open(0, 4)), visits(from(0, 0), to(1)), 9, []int{0}},
		{"the greatest free", nil, point(-far, -far), paths(open(far, far)), inTurn(1), 1_000_000, nil},
	} {
		if got, e := path.Retractions(c.r, c.start, c.p, c.o, c.free); e != api.OK || !slices.Equal(got, c.want) {
			t.Error(c.name, got, e)
		}
	}
}

func TestRetractionsRandom(t *testing.T) {
	r := rand.New(rand.NewSource(9))
	over, away := 0, 0
	for range 2000 {
		rings, p, start, free := randomRegion(r), randomPaths(r, r.Intn(6), 4), randomPoint(r), r.Intn(9)
		o := randomOrder(r, p)
		var want []int
		at := start
		for i, v := range o {
			begin, end := endsOf(p[v.Path], v)
			meets, far := slowMeets(rings, at, begin) > 0, apart(at, begin) > free
			if meets && !far {
				over++
			}
			if far && !meets {
				away++
			}
			if meets || far {
				want = append(want, i)
			}
			at = end
		}
		if got, e := path.Retractions(rings, start, p, o, free); e != api.OK || !slices.Equal(got, want) {
			t.Fatal(rings, start, p, o, free, got, want, e)
		}
	}
	if over < 100 || away < 100 {
		t.Error(over, away)
	}
}

// P5.4: the errors of Retractions, in their order.
func TestRetractionsErrors(t *testing.T) {
	wrong := []api.Ring{{}}
	for _, c := range []struct {
		name  string
		r     []api.Ring
		start api.Point
		p     []api.Path
		o     []api.Visit
		free  int
		e     api.Errno
	}{
		{"start first", wrong, point(0, far+1), paths(api.Path{}), nil, -1, api.ErrArg},
		{"then the region", wrong, point(0, 0), paths(api.Path{}), nil, -1, api.ErrForm},
		{"rings that meet", []api.Ring{square(0, 0, 4), square(4, 4, 4)}, point(0, 0), paths(api.Path{}), nil, -1, api.ErrConflict},
		{"then the paths", nil, point(0, 0), paths(api.Path{}), nil, -1, api.ErrNone},
		{"then the order", nil, point(0, 0), example(), visits(to(0), to(0)), -1, api.ErrTwice},
		{"no order", nil, point(0, 0), example(), nil, -1, api.ErrForm},
		{"free below 0", nil, point(0, 0), example(), inTurn(2), -1, api.ErrArg},
		{"free too far", nil, point(0, 0), nil, nil, 1_000_001, api.ErrArg},
		{"the least free", nil, point(0, 0), nil, nil, least, api.ErrArg},
		{"the greatest free", nil, point(0, 0), nil, nil, greatest, api.ErrArg},
	} {
		if got, e := path.Retractions(c.r, c.start, c.p, c.o, c.free); e != c.e || len(got) > 0 {
			t.Error(c.name, got, e)
		}
	}
}
