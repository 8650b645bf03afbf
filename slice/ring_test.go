package slice_test

import (
	"math/big"
	"math/rand"
	"slices"
	"testing"

	"beadlayer/api"
	"beadlayer/mesh"
	"beadlayer/slice"
)

func equalRings(a, b []api.Ring) bool {
	return slices.EqualFunc(a, b, func(x, y api.Ring) bool { return slices.Equal(x, y) })
}

// P2.3: both coordinates are rounded to the nearest integer, half up.
func TestRingsRounded(t *testing.T) {
	for _, c := range []struct{ doubled, want api.Ring }{
		{ring(0, 0, 8, 0, 0, 8), ring(0, 0, 4, 0, 0, 4)},
		{ring(1, 1, 9, 1, 1, 9), ring(1, 1, 5, 1, 1, 5)},
		{ring(-1, -1, 9, -3, -5, 9), ring(0, 0, 5, -1, -2, 5)},
		{ring(-7, -9, -1, -9, -1, 3), ring(-3, -4, 0, -4, 0, 2)},
		{ring(9, 1, 1, 9, 1, 1), ring(5, 1, 1, 5, 1, 1)},
	} {
		if got, e := slice.Rings(cone(c.doubled), 1); e != api.OK || !equalRings(got, []api.Ring{c.want}) {
			t.Error(c.doubled, got, e)
		}
	}
	m := tetra()
	m.Vertices = []api.Vec{vec(-9, -9, 0), vec(10, -8, 0), vec(-8, 11, 0), vec(0, 0, 3)}
	// At the height 1: -6 -6; 20/3 -16/3; -16/3 22/3. At 2: -3 -3; 10/3 -8/3; -8/3 11/3.
	for z, want := range map[int]api.Ring{1: ring(-6, -6, 7, -5, -5, 7), 2: ring(-3, -3, 3, -3, -3, 4)} {
		if got, e := slice.Rings(m, z); e != api.OK || !equalRings(got, []api.Ring{want}) {
			t.Error(z, got, e)
		}
	}
}

// P2.3: of successive equal points the first one is left; the last one and the first one are successive.
func TestRingsEqualPoints(t *testing.T) {
	for _, c := range []struct{ doubled, want api.Ring }{
		{ring(0, 0, 8, 0, 7, 0, 0, 8), ring(0, 0, 4, 0, 0, 4)},
		{ring(0, 0, -1, 0, 0, -1, 8, 0, 7, -1, 8, -1, 0, 8), ring(0, 0, 4, 0, 0, 4)},
		{ring(0, 0, 8, 0, 0, 8, -1, 0), ring(0, 0, 4, 0, 0, 4)},
		{ring(0, 0, 8, 0, 0, 8, -1, 0, 0, -1), ring(0, 0, 4, 0, 0, 4)},
		{ring(0, 0, -1, 0, 8, 0, 0, 8, -1, -1), ring(0, 0, 4, 0, 0, 4)},
		{ring(8, 0, 0, 8, 0, 7, 0, 0, 7, 0), ring(4, 0, 0, 4, 0, 0)},
	} {
		if got, e := slice.Rings(cone(c.doubled), 1); e != api.OK || !equalRings(got, []api.Ring{c.want}) {
			t.Error(c.doubled, got, e)
		}
	}
}

// P2.3: corners on straight lines stay, and inner rings go the other way around.
func TestRingsBlock(t *testing.T) {
	outside := block(vec(0, 0, 0), vec(20, 20, 20))
	inside := flipped(block(vec(5, 5, 5), vec(15, 15, 15)))
	m := both(outside, inside)
	outer := ring(0, 0, 10, 0, 20, 0, 20, 10, 20, 20, 10, 20, 0, 20, 0, 10)
	for _, c := range []struct {
		z, area int
		want    []api.Ring
	}{
		{0, 0, nil},
		{5, 800, []api.Ring{ring(0, 0, 5, 0, 20, 0, 20, 5, 20, 20, 15, 20, 0, 20, 0, 15)}},
		{10, 600, []api.Ring{outer, ring(15, 5, 10, 5, 5, 5, 5, 10, 5, 15, 10, 15, 15, 15, 15, 10)}},
		{20, 800, []api.Ring{ring(0, 0, 20, 0, 20, 20, 0, 20)}},
		{21, 0, nil},
	} {
		got, e := slice.Rings(m, c.z)
		if e != api.OK || !equalRings(normal(got), normal(c.want)) {
			t.Error(c.z, got, e)
		}
		if area, left, e := slice.Doubled(m, c.z); e != api.OK || area != c.area || left != 0 {
			t.Error(c.z, area, left, e)
		}
	}
}

// normal are rings that begin with their least corners.
func normal(rings []api.Ring) []api.Ring {
	var list []api.Ring
	for _, r := range rings {
		first := slices.Index(r, slices.MinFunc(r, func(p, q api.Point) int {
			if p.Y != q.Y {
				return p.Y - q.Y
			}
			return p.X - q.X
		}))
		list = append(list, slices.Concat(r[first:], r[:first]))
	}
	return list
}

// P2.3: contours with fewer than three points, or without an area, are left out, and counted.
func TestRingsLeftOut(t *testing.T) {
	for _, c := range []struct {
		name       string
		m          api.Mesh
		rings      []api.Ring
		area, left int
	}{
		{"example", tetra(), []api.Ring{ring(0, 0, 5, 0, 0, 5)}, 25, 0},
		{"one point", cone(ring(8, 8, 7, 8, 8, 7)), nil, 0, 1},
		{"two places, four points", cone(ring(8, 8, 0, 0, 7, 7, -1, -1)), nil, 0, 1},
		{"two points", cone(ring(8, 8, 0, 0, 7, 7)), nil, 0, 1},
		{"two sides", cone(ring(8, 8, 0, 0)), nil, 0, 1},
		{"on a line", cone(ring(0, 0, 8, 8, 4, 4)), nil, 0, 1},
		{"on a line after rounding", cone(ring(0, 0, 8, 7, 4, 4)), nil, 0, 1},
		{"smallest area", cone(ring(0, 0, 2, 0, 0, 2)), []api.Ring{ring(0, 0, 1, 0, 0, 1)}, 1, 0},
		{"clockwise", cone(ring(0, 0, 0, 8, 8, 0)), []api.Ring{ring(0, 0, 0, 4, 4, 0)}, -16, 0},
		{"open", api.Mesh{Vertices: tetra().Vertices, Faces: tetra().Faces[:3]}, nil, 0, 0},
		{"eight", cones(ring(0, 0, 4, 4, 4, 0, 0, 4)), nil, 0, 1},
		{"several", both(cone(ring(8, 8, 7, 8, 8, 7)), cones(ring(0, 0, 4, 0, 0, 4), ring(1, 1, 1, 2, 2, 1)), cone(ring(8, 8, 0, 0))), []api.Ring{ring(0, 0, 4, 0, 0, 4), ring(1, 1, 1, 2, 2, 1)}, 15, 2},
	} {
		if rings, e := slice.Rings(c.m, 1); e != api.OK || !equalRings(rings, c.rings) {
			t.Error(c.name, rings, e)
		}
		if area, left, e := slice.Doubled(c.m, 1); e != api.OK || area != c.area || left != c.left {
			t.Error(c.name, area, left, e)
		}
	}
}

// P2.3: Rings returns the error of the region, with its checks in their order; Doubled does not.
func TestRingsErrors(t *testing.T) {
	twice := ring(0, 0, 4, 0, 4, 4, 0, 0, -4, 4)
	crossed := ring(0, 0, 9, 9, 9, 0, 0, 8)
	back := ring(0, 0, 8, 0, 4, 0, 4, 4)
	long := comb(api.MaxRing + 2)
	for _, c := range []struct {
		name  string
		rings []api.Ring
		e     api.Errno
		area  int
	}{
		{"most rings", squares(api.MaxRings), api.OK, 50 * api.MaxRings},
		{"too many rings", squares(api.MaxRings + 1), api.ErrLarge, 50 * (api.MaxRings + 1)},
		{"too many rings, the first one invalid", append([]api.Ring{ring(0, -50, 4, -50, 4, -46, 0, -50, -4, -46)}, squares(api.MaxRings)...), api.ErrLarge, 50*api.MaxRings + 16},
		{"most corners of a ring", []api.Ring{comb(api.MaxRing)}, api.OK, 4980},
		{"too many corners of a ring", []api.Ring{long}, api.ErrLarge, 5000},
		{"a place twice", []api.Ring{twice}, api.ErrTwice, 16},
		{"crossed", []api.Ring{crossed}, api.ErrConflict, -9},
		{"turns back", []api.Ring{back}, api.ErrConflict, 16},
		{"crossed, then a place twice", []api.Ring{crossed, ring(20, 0, 24, 0, 24, 4, 20, 0, 16, 4)}, api.ErrConflict, 7},
		{"two that are the same, then a place twice", []api.Ring{squares(1)[0], squares(1)[0], twice}, api.ErrTwice, 116},
		{"two that are the same", []api.Ring{squares(1)[0], squares(1)[0]}, api.ErrConflict, 100},
		{"touch at a corner", []api.Ring{ring(0, 0, 5, 0, 0, 5), ring(5, 0, 9, 0, 9, 5)}, api.ErrConflict, 45},
		{"touch at a side", []api.Ring{ring(0, 0, 9, 0, 9, 9, 0, 9), ring(9, 3, 12, 3, 12, 6, 9, 6)}, api.ErrConflict, 180},
		{"one in the other", []api.Ring{ring(0, 0, 9, 0, 9, 9, 0, 9), ring(1, 1, 8, 1, 8, 8, 1, 8)}, api.OK, 260},
	} {
		m := cones(c.rings...)
		rings, e := slice.Rings(m, 1)
		if e != c.e || e == api.OK && !equalRings(rings, c.rings) || e != api.OK && len(rings) != 0 {
			t.Error(c.name, rings, e)
		}
		if area, left, e := slice.Doubled(m, 1); e != api.OK || area != c.area || left != 0 {
			t.Error(c.name, area, left, e)
		}
	}
}

// P2.3: what is left out does not count for the limits.
func TestRingsAfterLeavingOut(t *testing.T) {
	m := both(cones(squares(api.MaxRings)...), cone(ring(8, 8, 7, 8, 8, 7)))
	if rings, e := slice.Rings(m, 1); e != api.OK || len(rings) != api.MaxRings {
		t.Error(len(rings), e)
	}
	long := comb(api.MaxRing)
	var doubled api.Ring
	for _, p := range long {
		doubled = append(doubled, api.Point{X: 2 * p.X, Y: 2 * p.Y})
	}
	doubled = append(doubled, api.Point{X: doubled[0].X - 1, Y: doubled[0].Y})
	if rings, e := slice.Rings(cone(doubled), 1); e != api.OK || !equalRings(rings, []api.Ring{long}) {
		t.Error(rings, e)
	}
}

// slowRings rounds the places of closed contours.
func slowRings(m api.Mesh, z int) ([]api.Ring, int, int) {
	var rings []api.Ring
	sum, left := 0, 0
	c := slowContours(m, z)
	for i, row := range c.rows {
		if !c.closed[i] {
			continue
		}
		var points api.Ring
		for _, s := range row {
			a, b := m.Vertices[s.From], m.Vertices[s.To]
			points = append(points, api.Point{X: slowRound(slowPoint(a.X, b.X, a.Z, b.Z, z)), Y: slowRound(slowPoint(a.Y, b.Y, a.Z, b.Z, z))})
		}
		points = slices.Compact(points)
		for len(points) > 1 && points[0] == points[len(points)-1] {
			points = points[:len(points)-1]
		}
		area := 0
		for k := range points {
			p, q := points[k], points[(k+1)%len(points)]
			area += p.X*q.Y - p.Y*q.X
		}
		if len(points) < 3 || area == 0 {
			left++
			continue
		}
		sum += area
		rings = append(rings, points)
	}
	return rings, sum, left
}

// slowRound rounds 2 x + 1 halves down.
func slowRound(x *big.Rat) int {
	up := new(big.Rat).Add(x, big.NewRat(1, 2))
	return int(new(big.Int).Div(up.Num(), up.Denom()).Int64())
}

// P2.3: against another way to find rings.
func TestRingsRandom(t *testing.T) {
	r := rand.New(rand.NewSource(6))
	regions, lefts := 0, 0
	for n := range 4000 {
		wide := []int{5, 9, 30, 2*far + 1}[n%4]
		m := both(ball(r, wide), ball(r, wide))
		if n%3 == 0 {
			m = random(r)
		}
		z := m.Vertices[r.Intn(len(m.Vertices))].Z
		if r.Intn(2) == 0 {
			z = (z + m.Vertices[0].Z) / 2
		}
		want, area, left := slowRings(m, z)
		lefts += left
		if gotArea, gotLeft, e := slice.Doubled(m, z); e != api.OK || gotArea != area || gotLeft != left {
			t.Fatal(m, z, gotArea, gotLeft, e, area, left)
		}
		got, e := slice.Rings(m, z)
		switch {
		case e == api.OK && equalRings(got, want):
			if len(got) > 0 {
				regions++
			}
		case e != api.ErrTwice && e != api.ErrConflict || len(got) != 0:
			t.Fatal(m, z, got, want, e)
		}
	}
	if regions < 200 || lefts < 200 {
		t.Error(regions, lefts)
	}
}

// What follows: moved along X and Y by whole micrometres, rings move so.
func TestRingsMove(t *testing.T) {
	r := rand.New(rand.NewSource(7))
	moves := 0
	for range 500 {
		m := ball(r, 100)
		by := vec(r.Intn(1000)-500, r.Intn(1000)-500, r.Intn(10))
		moved, _ := mesh.Moved(m, by)
		z := r.Intn(100) - 50
		a, e1 := slice.Rings(m, z)
		b, e2 := slice.Rings(moved, z+by.Z)
		for _, points := range a {
			for i := range points {
				points[i] = api.Point{X: points[i].X + by.X, Y: points[i].Y + by.Y}
			}
			moves++
		}
		if e1 != e2 || !equalRings(a, b) {
			t.Fatal(m, z, a, b, e1, e2)
		}
	}
	if moves < 100 {
		t.Error(moves)
	}
}
