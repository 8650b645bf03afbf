package region_test

import (
	"math/rand"
	"slices"
	"testing"

	"beadlayer/api"
	"beadlayer/region"
)

// P3.2: the form that is the same for all regions with the same sides.
func TestNormal(t *testing.T) {
	for _, c := range []struct{ r, want []api.Ring }{
		{nil, nil},
		{frame(), []api.Ring{square(0, 0, 10), ring(4, 4, 4, 6, 6, 6, 6, 4)}},
		{[]api.Ring{ring(6, 4, 6, 6, 4, 6, 4, 4), ring(10, 10, 10, 0, 0, 0, 0, 10)}, frame()},
		// The least corner by Y, then X; rings likewise.
		{[]api.Ring{ring(0, 5, 3, 1, 6, 5, 2, 9)}, []api.Ring{ring(3, 1, 6, 5, 2, 9, 0, 5)}},
		{[]api.Ring{square(0, 7, 2), square(9, 3, 2), square(5, 3, 2)}, []api.Ring{square(5, 3, 2), square(9, 3, 2), square(0, 7, 2)}},
		{[]api.Ring{square(3, 3, 1), square(2, 2, 3), square(0, 0, 9), square(20, -1, 5)}, []api.Ring{square(20, -1, 5), square(0, 0, 9), ring(2, 2, 2, 5, 5, 5, 5, 2), square(3, 3, 1)}},
		{[]api.Ring{ring(4, 0, 4, 4, 0, 4, 0, 0, 2, 0)}, []api.Ring{ring(0, 0, 2, 0, 4, 0, 4, 4, 0, 4)}},
	} {
		if got, e := region.Normal(c.r); e != api.OK || !sameRings(got, c.want) {
			t.Error(c, got, e)
		}
	}
}

// less is by Y, then X.
func less(a, b api.Point) bool {
	return a.Y < b.Y || a.Y == b.Y && a.X < b.X
}

// isCounterclockwise looks at the least corner, which is convex.
func isCounterclockwise(r api.Ring) bool {
	first := 0
	for i := range r {
		if less(r[i], r[first]) {
			first = i
		}
	}
	before, after := r[(first+len(r)-1)%len(r)], r[(first+1)%len(r)]
	return cross(minus(after, r[first]), minus(before, r[first])) > 0
}

// stirred is the same region: each ring begins with another corner, and is turned round or not; all in any order.
func stirred(r *rand.Rand, rings []api.Ring) []api.Ring {
	all := copied(rings)
	for i, ring := range all {
		k := r.Intn(len(ring))
		all[i] = append(slices.Clone(ring[k:]), ring[:k]...)
		if r.Intn(2) == 0 {
			slices.Reverse(all[i])
		}
	}
	r.Shuffle(len(all), func(i, k int) { all[i], all[k] = all[k], all[i] })
	return all
}

func TestNormalRandom(t *testing.T) {
	r := rand.New(rand.NewSource(4))
	for range 1000 {
		rings := randomRegion(r)
		got, e := region.Normal(rings)
		if e != api.OK || len(got) != len(rings) {
			t.Fatal(rings, got, e)
		}
		depths := slowDepths(got)
		for i, next := range got {
			if isCounterclockwise(next) != (depths[i]%2 == 0) || slices.ContainsFunc(next, func(p api.Point) bool { return less(p, next[0]) }) {
				t.Fatal(rings, got)
			}
			if i > 0 && !less(got[i-1][0], next[0]) {
				t.Fatal(rings, got)
			}
		}
		for _, other := range [][]api.Ring{stirred(r, got), stirred(r, rings), got} {
			if again, e := region.Normal(other); e != api.OK || !sameRings(again, got) {
				t.Fatal(rings, got, again, e)
			}
		}
	}
}

// slowSimplified does it as the document says it, one corner after the other.
func slowSimplified(r []api.Ring) []api.Ring {
	all := copied(r)
	for i := range all {
		for next := 0; next < len(all[i]); {
			l := all[i]
			before, after := l[(next+len(l)-1)%len(l)], l[(next+1)%len(l)]
			if meet(before, after, l[next], l[next]) {
				all[i] = slices.Delete(l, next, next+1)
				next = 0
			} else {
				next++
			}
		}
	}
	return all
}

// P3.2: no corners on straight lines.
func TestSimplified(t *testing.T) {
	for _, c := range []struct{ r, want []api.Ring }{
		{nil, nil},
		{frame(), frame()},
		{[]api.Ring{ring(0, 0, 2, 0, 4, 0, 4, 4)}, []api.Ring{ring(0, 0, 4, 0, 4, 4)}},
		{[]api.Ring{ring(2, 0, 4, 0, 4, 4, 0, 0)}, []api.Ring{ring(4, 0, 4, 4, 0, 0)}},
		{[]api.Ring{ring(4, 0, 4, 4, 0, 0, 2, 0)}, []api.Ring{ring(4, 0, 4, 4, 0, 0)}},
		{[]api.Ring{ring(1, 0, 2, 0, 3, 0, 9, 0, 9, 9, 6, 6, 4, 4, 0, 0)}, []api.Ring{ring(9, 0, 9, 9, 0, 0)}},
		{[]api.Ring{square(0, 0, 9), ring(2, 2, 2, 3, 2, 4, 4, 3)}, []api.Ring{square(0, 0, 9), ring(2, 2, 2, 4, 4, 3)}},
	} {
		if got, e := region.Simplified(c.r); e != api.OK || !sameRings(got, c.want) {
			t.Error(c, got, e)
		}
	}
}

// withMore has more corners on the sides, at places of whole micrometres.
func withMore(r *rand.Rand, rings []api.Ring) []api.Ring {
	var all []api.Ring
	for _, ring := range rings {
		var more api.Ring
		for i, p := range ring {
			q := ring[(i+1)%len(ring)]
			more = append(more, p)
			for k := 1; k < 4; k++ {
				if (q.X-p.X)%4 == 0 && (q.Y-p.Y)%4 == 0 && r.Intn(2) == 0 {
					more = append(more, point(p.X+(q.X-p.X)/4*k, p.Y+(q.Y-p.Y)/4*k))
				}
			}
		}
		all = append(all, more)
	}
	return all
}

func TestSimplifiedRandom(t *testing.T) {
	r := rand.New(rand.NewSource(5))
	fewer := 0
	for range 2000 {
		rings := stirred(r, withMore(r, randomRegion(r)))
		want := slowSimplified(rings)
		if !sameRings(rings, want) {
			fewer++
		}
		got, e := region.Simplified(rings)
		if e != api.OK || !sameRings(got, want) {
			t.Fatal(rings, got, want, e)
		}
		a, _ := region.Area(rings)
		if b, e := region.Area(got); e != api.OK || a != b {
			t.Fatal(rings, got, e)
		}
	}
	if fewer < 300 {
		t.Error(fewer)
	}
}

// P3.2: the smallest convex ring around points.
func TestHull(t *testing.T) {
	many := make([]api.Point, api.MaxPoints)
	for i := range many {
		many[i] = point(i, i*i%far)
	}
	for _, c := range []struct {
		p, want api.Ring
		e       api.Errno
	}{
		{nil, nil, api.ErrForm},
		{ring(1, 1), nil, api.ErrForm},
		{ring(1, 1, 2, 2), nil, api.ErrForm},
		{ring(1, 1, 1, 1, 1, 1), nil, api.ErrForm},
		{ring(1, 1, 2, 3, 1, 1, 2, 3), nil, api.ErrForm},
		{ring(0, 0, 4, 2, 2, 1, -6, -3), nil, api.ErrForm},
		{ring(3, 0, 1, 0, 2, 0), nil, api.ErrForm},
		{ring(0, 3, 0, 1, 0, 2), nil, api.ErrForm},
		{ring(0, 0, 0, 4, 4, 0), ring(0, 0, 4, 0, 0, 4), api.OK},
		{ring(2, 2, 0, 0, 2, 0, 4, 0, 4, 4, 0, 4), ring(0, 0, 4, 0, 4, 4, 0, 4), api.OK},
		{ring(4, 4, 4, 4, 0, 0, 0, 0, 4, 0, 4, 0), ring(0, 0, 4, 0, 4, 4), api.OK},
		{ring(0, 9, 5, 1, 3, 0, 9, 9, 4, 0, 5, 5), ring(3, 0, 4, 0, 5, 1, 9, 9, 0, 9), api.OK},
		{ring(far, far, -far, -far, far, -far, -far, far, 0, 0), square(-far, -far, 2*far), api.OK},
		{ring(0, 0, far+1, 0), nil, api.ErrArg},
		{ring(0, 0, 1, 0, 0, -far-1, 3, 3), nil, api.ErrArg},
		{ring(least, 0, 1, 0, 0, 1), nil, api.ErrArg},
		{ring(0, greatest, 1, 0, 0, 1), nil, api.ErrArg},
		{append(slices.Clone(many), point(far+1, 0)), nil, api.ErrLarge},
	} {
		if got, e := region.Hull(c.p); e != c.e || !slices.Equal(got, c.want) {
			t.Error(c, got, e)
		}
	}
	if got, e := region.Hull(many); e != api.OK || len(got) < 3 {
		t.Error(got, e)
	}
}

// inTriangle reports whether a point is in a triangle, or on its edge.
func inTriangle(p, a, b, c api.Point) bool {
	x, y, z := cross(minus(b, a), minus(p, a)), cross(minus(c, b), minus(p, b)), cross(minus(a, c), minus(p, c))
	if cross(minus(b, a), minus(c, a)) == 0 {
		return false
	}
	return x >= 0 && y >= 0 && z >= 0 || x <= 0 && y <= 0 && z <= 0
}

// slowHull has the points that are not in a triangle of others, nor between two of them, in the order of their directions from the least one.
func slowHull(points []api.Point) api.Ring {
	sorted := slices.Clone(points)
	slices.SortFunc(sorted, func(a, b api.Point) int {
		if less(a, b) {
			return -1
		}
		return 1
	})
	sorted = slices.Compact(sorted)
	var hull api.Ring
	for i, p := range sorted {
		others := slices.Delete(slices.Clone(sorted), i, i+1)
		inside := false
		for _, a := range others {
			for _, b := range others {
				inside = inside || a != b && meet(a, b, p, p)
				for _, c := range others {
					inside = inside || inTriangle(p, a, b, c)
				}
			}
		}
		if !inside {
			hull = append(hull, p)
		}
	}
	if len(hull) < 3 {
		return nil
	}
	slices.SortFunc(hull[1:], func(a, b api.Point) int {
		return -cross(minus(a, hull[0]), minus(b, hull[0]))
	})
	return hull
}

func TestHullRandom(t *testing.T) {
	r := rand.New(rand.NewSource(6))
	count := make(map[int]int)
	for range 3000 {
		var points []api.Point
		wide := 1 + r.Intn(9)
		for range 1 + r.Intn(9) {
			points = append(points, point(r.Intn(wide)-3, r.Intn(wide)-3))
		}
		want := slowHull(points)
		count[len(want)]++
		got, e := region.Hull(points)
		if (e == api.OK) != (len(want) > 0) || !slices.Equal(got, want) {
			t.Fatal(points, got, want, e)
		}
		if e != api.OK && e != api.ErrForm {
			t.Fatal(e)
		}
	}
	if count[0] < 300 || count[3] < 300 || count[5] < 100 {
		t.Error(count)
	}
}
