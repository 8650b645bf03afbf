package region_test

import (
	"math/rand"
	"slices"
	"testing"

	"beadlayer/api"
	"beadlayer/region"
)

// P3.1: a ring (the tests of package polygon have more of them).
func TestCheckRing(t *testing.T) {
	for _, c := range []struct {
		r api.Ring
		e api.Errno
	}{
		{nil, api.ErrForm},
		{ring(0, 0, greatest, 0), api.ErrForm},
		{ring(0, 0, 1, 0, 0, 1), api.OK},
		{comb(api.MaxRing), api.OK},
		{append(comb(api.MaxRing), point(far+1, 0)), api.ErrLarge},
		{ring(0, 0, 0, 0, far+1, 0), api.ErrArg},
		{ring(0, 0, 0, -far-1, 0, 0), api.ErrArg},
		{square(-far, -far, 2*far), api.OK},
		{ring(0, 0, 4, 4, 4, 0, 0, 4, 0, 0), api.ErrTwice},
		{ring(0, 0, 4, 4, 4, 0, 0, 4), api.ErrConflict},
		{ring(0, 0, 4, 0, 2, 0), api.ErrConflict},
		{ring(0, 0, 2, 0, 4, 0, 4, 4), api.OK},
	} {
		if e := region.CheckRing(c.r); e != c.e {
			t.Error(c, e)
		}
	}
}

// P3.1: a region.
func TestCheckRegion(t *testing.T) {
	for _, c := range []struct {
		r []api.Ring
		e api.Errno
	}{
		{nil, api.OK},
		{frame(), api.OK},
		{squares(api.MaxRings), api.OK},
		{append(squares(api.MaxRings), nil), api.ErrLarge},
		{combs(), api.OK},
		{append(combs(), ring(0, 0)), api.ErrLarge},
		{[]api.Ring{square(0, 0, 9), square(0, 0, 9), ring(0, 0, 0, 0, 1, 1), nil}, api.ErrTwice},
		{[]api.Ring{square(0, 0, 9), square(5, 5, 9)}, api.ErrConflict},
		{[]api.Ring{square(0, 0, 9), square(9, 9, 9)}, api.ErrConflict},
	} {
		if e := region.CheckRegion(c.r); e != c.e {
			t.Error(len(c.r), e, c.e)
		}
	}
}

// P3.1, P3.3: functions with a region, or with cells, first return the error of their check.
func TestChecksFirst(t *testing.T) {
	bad := point(far+1, 0)
	for _, f := range withRegion([]api.Ring{square(0, 0, 9), square(5, 5, 9)}, bad, 3) {
		if _, e := f.run(); e != api.ErrConflict {
			t.Error(f.name, e)
		}
	}
	wrong, other := cells(2, 0, 0, "#x"), cells(3, 0, 0)
	for _, f := range withCells(wrong, other, bad, -1) {
		if _, e := f.run(); e != api.ErrSyntax {
			t.Error(f.name, e)
		}
	}
	for _, f := range withCells(cells(4, 0, 0), wrong, bad, -1)[3:6] {
		if _, e := f.run(); e != api.ErrSyntax {
			t.Error(f.name, e)
		}
	}
}

// stand is 1 if a point lies in a ring, 0 if it is on a side, -1 otherwise: it counts the sides that meet a way which is so little sloped that no corner within 1000 micrometres is on it.
func stand(r api.Ring, p api.Point) int {
	result := -1
	for i, a := range r {
		b := r[(i+1)%len(r)]
		if meet(a, b, p, p) {
			return 0
		}
		if meet(a, b, p, point(p.X+1001, p.Y+1)) {
			result = -result
		}
	}
	return result
}

func cross(a, b api.Point) int { return a.X*b.Y - a.Y*b.X }

func dot(a, b api.Point) int { return a.X*b.X + a.Y*b.Y }

func minus(a, b api.Point) api.Point { return point(a.X-b.X, a.Y-b.Y) }

// between reports whether n / d is from 0 to 1.
func between(n, d int) bool {
	if d < 0 {
		n, d = -n, -d
	}
	return n >= 0 && n <= d
}

// meet reports whether two lines have a point in common: it solves p + t r = q + u s.
func meet(p, p2, q, q2 api.Point) bool {
	r, s, w := minus(p2, p), minus(q2, q), minus(q, p)
	if d := cross(r, s); d != 0 {
		return between(cross(w, s), d) && between(cross(w, r), d)
	}
	if cross(w, r) != 0 {
		return false
	}
	a, b := dot(w, r), dot(minus(q2, p), r)
	return max(a, b) >= 0 && min(a, b) <= dot(r, r)
}

func slowDepths(r []api.Ring) []int {
	depths := make([]int, len(r))
	for i := range r {
		for k := range r {
			if i != k && !slices.ContainsFunc(r[i], func(p api.Point) bool { return stand(r[k], p) != 1 }) {
				depths[i]++
			}
		}
	}
	return depths
}

// P3.2: in how many other rings each one lies.
func TestDepths(t *testing.T) {
	for _, c := range []struct {
		r    []api.Ring
		want []int
	}{
		{nil, nil},
		{frame(), []int{0, 1}},
		{[]api.Ring{square(4, 4, 1), square(0, 0, 9), square(3, 3, 3), square(20, 0, 5), square(21, 1, 2), square(1, 1, 7)}, []int{3, 0, 2, 0, 1, 1}},
		{[]api.Ring{square(-far, -far, 2*far), square(-far+1, -far+1, 1), square(far-2, far-2, 1)}, []int{0, 1, 1}},
		// The first corner is beside a corner of the other ring, or beside two.
		{[]api.Ring{ring(5, 5, 6, 4, 6, 6), ring(0, 0, 9, 5, 0, 9)}, []int{1, 0}},
		{[]api.Ring{ring(-5, 5, -6, 6, -6, 4), ring(0, 0, 9, 5, 0, 9)}, []int{0, 0}},
		{[]api.Ring{ring(1, 5, 0, 4, 2, 4), ring(3, 5, 5, 0, 7, 5, 9, 0, 9, 9, 3, 9)}, []int{0, 0}},
	} {
		if got, e := region.Depths(c.r); e != api.OK || !slices.Equal(got, c.want) {
			t.Error(c, got, e)
		}
	}
	r := rand.New(rand.NewSource(1))
	count := make(map[int]int)
	for range 2000 {
		rings := randomRegion(r)
		want := slowDepths(rings)
		for _, depth := range want {
			count[depth]++
		}
		if got, e := region.Depths(rings); e != api.OK || !slices.Equal(got, want) {
			t.Fatal(rings, got, want, e)
		}
	}
	if count[1] < 300 || count[2] < 50 {
		t.Error(count)
	}
}

// P3.2: what is inside, on a side, or outside.
func TestInside(t *testing.T) {
	all := []api.Ring{square(0, 0, 10), ring(2, 2, 2, 8, 8, 8, 8, 2), ring(4, 4, 6, 5, 4, 6)}
	for _, c := range [][3]int{
		{1, 1, 1}, {9, 9, 1}, {3, 5, -1}, {7, 5, -1}, {5, 5, 1}, {4, 5, 0}, {6, 5, 0}, {4, 4, 0}, {2, 5, 0}, {8, 8, 0}, {10, 10, 0}, {10, 5, 0}, {5, 10, 0}, {0, 0, 0},
		{11, 5, -1}, {-1, 5, -1}, {5, -1, -1}, {5, 11, -1}, {-1, 0, -1}, {11, 0, -1}, {-1, 10, -1}, {11, 10, -1}, {1, 2, 1}, {1, 8, 1}, {9, 8, 1}, {3, 4, -1}, {3, 6, -1}, {7, 4, -1},
		{far, far, -1}, {-far, -far, -1},
	} {
		if got, e := region.Inside(all, point(c[0], c[1])); e != api.OK || got != c[2] {
			t.Error(c, got, e)
		}
	}
	for _, p := range []api.Point{point(far+1, 0), point(-far-1, 0), point(0, far+1), point(0, -far-1), point(least, 0), point(0, greatest)} {
		if got, e := region.Inside(all, p); e != api.ErrArg || got != 0 {
			t.Error(p, got, e)
		}
		if got, e := region.Inside(nil, p); e != api.ErrArg || got != 0 {
			t.Error(p, got, e)
		}
	}
	if got, e := region.Inside(nil, point(0, 0)); e != api.OK || got != -1 {
		t.Error(got, e)
	}
}

func slowInside(r []api.Ring, p api.Point) int {
	result := -1
	for _, ring := range r {
		result *= -stand(ring, p)
	}
	return result
}

func TestInsideRandom(t *testing.T) {
	r := rand.New(rand.NewSource(2))
	count := make(map[int]int)
	for range 300 {
		rings := randomRegion(r)
		for range 100 {
			p := point(r.Intn(64)-32, r.Intn(64)-32)
			want := slowInside(rings, p)
			count[want]++
			if got, e := region.Inside(rings, p); e != api.OK || got != want {
				t.Fatal(rings, p, got, want, e)
			}
		}
	}
	if count[0] < 300 || count[1] < 1000 || count[-1] < 1000 {
		t.Error(count)
	}
}

// slowArea counts the points in each ring, and on its sides: twice the area is twice the ones, and the others, less 2.
func slowArea(r []api.Ring) int {
	sum := 0
	for i, depth := range slowDepths(r) {
		area := -2
		for x := -30; x <= 30; x++ {
			for y := -30; y <= 30; y++ {
				area += stand(r[i], point(x, y)) + 1
			}
		}
		if depth%2 == 0 {
			sum += area
		} else {
			sum -= area
		}
	}
	return sum
}

// P3.2: twice the area of all that is inside.
func TestArea(t *testing.T) {
	for _, c := range []struct {
		r    []api.Ring
		want int
	}{
		{nil, 0},
		{frame(), 192},
		{[]api.Ring{ring(4, 4, 4, 6, 6, 6, 6, 4)}, 8},
		{[]api.Ring{ring(0, 0, 0, 1, 1, 0)}, 1},
		{[]api.Ring{square(0, 0, 10), square(1, 1, 8), ring(2, 2, 2, 5, 5, 5, 5, 2), ring(20, 0, 20, 3, 23, 3, 23, 0)}, 200 - 128 + 18 + 18},
		{[]api.Ring{square(-far, -far, 2*far)}, 2 * 4 * far * far},
	} {
		if got, e := region.Area(c.r); e != api.OK || got != c.want {
			t.Error(c, got, e)
		}
	}
	r := rand.New(rand.NewSource(3))
	for range 100 {
		rings := randomRegion(r)
		want := slowArea(rings)
		if got, e := region.Area(rings); e != api.OK || got != want {
			t.Fatal(rings, got, want, e)
		}
	}
}
