package motion_test

import (
	"math/rand"
	"slices"
	"testing"

	"beadlayer/api"
	"beadlayer/motion"
)

// P6.1: the legs and the corners of paths.
func TestPaths(t *testing.T) {
	for _, c := range []struct {
		name    string
		p       api.Path
		longs   []int
		corners []int // for the limit 83
	}{
		{"one leg", open(1, 2, 4, -3), list(5), nil},
		{"the other way", open(4, -3, 1, 2), list(5), nil},
		{"X counts", open(1, 2, 8, 5), list(7), nil},
		{"X counts, down", open(8, 5, 1, 2), list(7), nil},
		{"both differences alike", open(1, 2, 4, 5), list(3), nil},
		{"straight on", open(0, 0, 2, 1, 6, 3), list(2, 4), list(83)},
		{"straight back", open(0, 0, 4, 2, 2, 1), list(4, 2), list(0)},
		{"to the left, by 45 degrees", open(0, 0, 5, 0, 7, 2), list(5, 2), list(41)},
		{"to the right, by 45 degrees", open(0, 0, 5, 0, 7, -2), list(5, 2), list(41)},
		{"a little to the left", open(0, 0, 50, 0, 99, 1), list(50, 49), list(41)},
		{"a little to the right", open(0, 0, 0, 50, 1, 99), list(50, 49), list(41)},
		{"to the left, by more than 45 degrees", open(0, 0, 5, 0, 105, 101), list(5, 101), list(20)},
		{"to the right, by more than 45 degrees", open(0, 0, 5, 0, 105, -101), list(5, 101), list(20)},
		{"to the left, by less than 90 degrees", open(0, 0, 5, 0, 6, 99), list(5, 99), list(20)},
		{"to the right, by less than 90 degrees", open(0, 0, 5, 0, 6, -99), list(5, 99), list(20)},
		{"to the left, by 90 degrees", open(0, 0, 3, 1, 2, 4), list(3, 3), list(0)},
		{"to the right, by 90 degrees", open(0, 0, 3, 1, 4, -2), list(3, 3), list(0)},
		{"back to the left", open(0, 0, 5, 0, 4, 9), list(5, 9), list(0)},
		{"back to the right", open(0, 0, 5, 0, 4, -9), list(5, 9), list(0)},
		{"back, by 135 degrees", open(0, 0, 5, 0, 3, 2), list(5, 2), list(0)},
		{"a triangle", closed(0, 0, 4, 0, 4, 4), list(4, 4, 4), list(0, 0)},
		{"an octagon", closed(0, 0, 2, 0, 4, 2, 4, 4, 2, 6, 0, 6, -2, 4, -2, 2), list(2, 2, 2, 2, 2, 2, 2, 2), list(41, 41, 41, 41, 41, 41, 41)},
		{"points twice", open(0, 0, 0, 0, 5, 0, 5, 0, 5, 0, 9, 0, 9, 0), list(5, 4), list(83)},
		{"the last point is the first one", closed(0, 0, 5, 0, 5, 5, 0, 0), list(5, 5, 5), list(0, 0)},
		{"there and back, closed", closed(0, 0, 5, 0, 5, 0), list(5, 5), list(0)},
		{"the last point is the first one, but not closed", open(0, 0, 5, 0, 5, 5, 0, 0), list(5, 5, 5), list(0, 0)},
		{"two points, twice each", closed(0, 0, 0, 0, 9, 9), list(9, 9), list(0)},
		{"the farthest points", closed(-far, -far, far, far, -far, far), list(2*far, 2*far, 2*far), list(0, 0)},
		{"the farthest points, straight on", open(-far, far, 0, 0, far, -far), list(far, far), list(83)},
	} {
		l, e := motion.Legs(c.p, 83)
		longs := make([]int, len(l))
		for i, leg := range l {
			longs[i] = leg.Long
			if leg.Limit != 83 {
				t.Error(c.name, l)
			}
		}
		corners, again := motion.Corners(c.p, 83)
		if e != api.OK || again != api.OK || !slices.Equal(longs, c.longs) || !slices.Equal(corners, c.corners) {
			t.Error(c.name, l, corners, e, again)
		}
	}
}

// P6.1: half and a quarter of the limit, rounded down.
func TestCornerLimits(t *testing.T) {
	p := open(0, 0, 3, 0, 6, 0, 9, 3, 9, 9, 10, 14, 12, 16, 12, 13)
	for _, c := range [][4]int{{1, 1, 0, 0}, {2, 2, 1, 0}, {3, 3, 1, 0}, {4, 4, 2, 1}, {7, 7, 3, 1}, {8, 8, 4, 2}, {api.MaxSpeed, 100_000, 50_000, 25_000}, {api.MaxSpeed - 1, 99_999, 49_999, 24_999}} {
		corners, e := motion.Corners(p, c[0])
		if e != api.OK || !slices.Equal(corners, list(c[1], c[2], c[2], c[2], c[2], 0)) {
			t.Error(c, corners, e)
		}
		l, e := motion.Legs(p, c[0])
		if e != api.OK || !slices.Equal(l, legs(3, c[0], 3, c[0], 3, c[0], 6, c[0], 5, c[0], 2, c[0], 3, c[0])) {
			t.Error(c, l, e)
		}
		if corners, e = motion.Corners(open(0, 0, 5, 0, 6, 5), c[0]); e != api.OK || !slices.Equal(corners, list(c[3])) {
			t.Error(c, corners, e)
		}
	}
}

// permitted tells the speed at a corner with complex numbers: their quotient has the angle between both.
func permitted(u, v api.Point, limit int) int {
	turn := complex(float64(v.X), float64(v.Y)) * complex(float64(u.X), -float64(u.Y))
	ahead, aside := int(real(turn)), abs(int(imag(turn)))
	switch {
	case ahead <= 0:
		return 0
	case aside == 0:
		return limit
	case aside > ahead:
		return limit / 4
	}
	return limit / 2
}

// P6.1: random paths, with all their corners.
func TestRandomPaths(t *testing.T) {
	r := rand.New(rand.NewSource(3))
	for range 3000 {
		p, size, limit := api.Path{Closed: r.Intn(2) == 0}, []int{2, 5, far}[r.Intn(3)], 1+r.Intn(99)
		for range 3 + r.Intn(6) {
			p.Points = append(p.Points, point(r.Intn(2*size+1)-size, r.Intn(2*size+1)-size))
		}
		points := p.Points
		if p.Closed {
			points = append(slices.Clone(points), points[0])
		}
		points = slices.Compact(slices.Clone(points))
		if len(points) == 1 {
			continue
		}
		var wantLegs []api.Leg
		var wantCorners []int
		for i := 1; i < len(points); i++ {
			u := point(points[i].X-points[i-1].X, points[i].Y-points[i-1].Y)
			wantLegs = append(wantLegs, leg(max(abs(u.X), abs(u.Y)), limit))
			if i > 1 {
				before := point(points[i-1].X-points[i-2].X, points[i-1].Y-points[i-2].Y)
				wantCorners = append(wantCorners, permitted(before, u, limit))
			}
		}
		l, e := motion.Legs(p, limit)
		corners, again := motion.Corners(p, limit)
		if e != api.OK || again != api.OK || !slices.Equal(l, wantLegs) || !slices.Equal(corners, wantCorners) {
			t.Fatal(p, l, wantLegs, corners, wantCorners, e, again)
		}
		if _, e := motion.Speeds(l, corners, 1); e != api.OK {
			t.Fatal(p, e)
		}
	}
}

// P6.1: the errors of paths, at their bounds, and the first one of several.
func TestWrongPaths(t *testing.T) {
	long := func(n int) api.Path {
		var p api.Path
		for i := range n {
			p.Points = append(p.Points, point(i, i%7))
		}
		return p
	}
	shut := func(p api.Path) api.Path { return api.Path{Points: p.Points, Closed: true} }
	farther := long(api.MaxRing + 1)
	farther.Points[0] = point(greatest, least)
	for _, c := range []struct {
		name  string
		p     api.Path
		limit int
		e     api.Errno
	}{
		{"no points", open(), 1, api.ErrNone},
		{"no points, closed, no limit", closed(), 0, api.ErrNone},
		{"too many points", long(api.MaxRing + 1), 1, api.ErrLarge},
		{"too many points, closed", shut(long(api.MaxRing + 1)), 1, api.ErrLarge},
		{"too many points, too far, no limit", farther, 0, api.ErrLarge},
		{"one point, closed", closed(0, 0), 1, api.ErrForm},
		{"two points, closed", closed(0, 0, 1, 1), 1, api.ErrForm},
		{"two points, closed, too far, no limit", closed(0, 0, far+1, 1), 0, api.ErrForm},
		{"X too far", open(0, 0, far+1, 0), 1, api.ErrArg},
		{"X too far below", open(-far-1, 0, 0, 0), 1, api.ErrArg},
		{"Y too far", open(0, 0, 1, far+1), 1, api.ErrArg},
		{"Y too far below", closed(0, 0, 1, 1, 2, -far-1), 1, api.ErrArg},
		{"much too far", open(least, greatest, greatest, least), 1, api.ErrArg},
		{"one point, too far", open(far+1, 0), 1, api.ErrArg},
		{"no limit", open(0, 0, 1, 1), 0, api.ErrArg},
		{"no limit, no legs", open(0, 0), 0, api.ErrArg},
		{"a limit below 0", open(0, 0, 1, 1), -1, api.ErrArg},
		{"the least limit", open(0, 0, 1, 1), least, api.ErrArg},
		{"too great a limit", open(0, 0, 1, 1), api.MaxSpeed + 1, api.ErrArg},
		{"the greatest limit", open(0, 0, 1, 1), greatest, api.ErrArg},
		{"one point", open(0, 0), 1, api.ErrNone},
		{"one point, twice", open(5, 6, 5, 6), 1, api.ErrNone},
		{"one point, three times, closed", closed(5, 6, 5, 6, 5, 6), 1, api.ErrNone},
		{"many points", long(api.MaxRing), 1, api.OK},
		{"many points, closed", shut(long(api.MaxRing)), api.MaxSpeed, api.OK},
	} {
		for _, f := range withPath(c.p, c.limit) {
			results, e := f.run()
			if e != c.e || isZero(results[0]) != (e != api.OK) {
				t.Error(c.name, f.name, results, e)
			}
		}
	}
	if l, _ := motion.Legs(shut(long(api.MaxRing)), 1); len(l) != api.MaxRing {
		t.Error(len(l))
	}
}
