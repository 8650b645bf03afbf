package polygon_test

import (
	"math/rand"
	"reflect"
	"testing"

	"beadlayer/api"
	"beadlayer/polygon"
)

const (
	least    = -1 << 63
	greatest = 1<<63 - 1
)

// ring has the corners that are told as X, Y, X, Y ..
func ring(n ...int) api.Ring {
	var r api.Ring
	for i := 0; i < len(n); i += 2 {
		r = append(r, api.Point{X: n[i], Y: n[i+1]})
	}
	return r
}

func square(x, y, size int) api.Ring {
	return ring(x, y, x+size, y, x+size, y+size, x, y+size)
}

// comb has any even number of corners from 4 on.
func comb(corners int) api.Ring {
	var r api.Ring
	for i := range corners / 2 {
		r = append(r, api.Point{X: 2 * i, Y: 10 * (i % 2)})
	}
	for i := corners/2 - 1; i >= 0; i-- {
		r = append(r, api.Point{X: 2 * i, Y: 10*(i%2) + 5})
	}
	return r
}

func TestCheckRing(t *testing.T) {
	const far = api.MaxCoordinate
	long := comb(api.MaxRing + 2)
	long[0].X = greatest
	for _, c := range []struct {
		name string
		r    api.Ring
		e    api.Errno
	}{
		{"none", nil, api.ErrForm},
		{"two corners", ring(0, 0, greatest, 0), api.ErrForm},
		{"three corners", ring(0, 0, 1, 0, 0, 1), api.OK},
		{"clockwise", ring(0, 0, 0, 1, 1, 0), api.OK},
		{"at bounds", ring(-far, -far, far, -far, far, far, -far, far), api.OK},
		{"most corners", comb(api.MaxRing), api.OK},
		{"too many corners, far", long, api.ErrLarge},
		{"X far", ring(0, 0, far+1, 0, 0, 1), api.ErrArg},
		{"X far below", ring(0, 0, 1, 0, -far-1, 1), api.ErrArg},
		{"Y far", ring(0, far+1, 1, 0, 0, 1), api.ErrArg},
		{"Y far below", ring(0, 0, 1, -far-1, 0, 1), api.ErrArg},
		{"least", ring(0, 0, least, least, 0, 1), api.ErrArg},
		{"twice", ring(0, 0, 4, 0, 4, 4, 0, 0, 0, 4), api.ErrTwice},
		{"twice, successive", ring(0, 0, 0, 0, 4, 4), api.ErrTwice},
		{"twice, last and first", ring(0, 0, 4, 0, 4, 4, 0, 0), api.ErrTwice},
		{"straight corner", ring(0, 0, 2, 0, 4, 0, 4, 4), api.OK},
		{"straight last corner", ring(2, 0, 4, 0, 4, 4, 0, 0), api.OK},
		{"on a line", ring(0, 0, 4, 0, 2, 0), api.ErrConflict},
		{"on a line, sloped", ring(4, 2, 0, 0, 2, 1), api.ErrConflict},
		{"turns back", ring(0, 0, 6, 0, 3, 0, 3, 3), api.ErrConflict},
		{"turns back at the end", ring(3, 0, 3, 3, 0, 0, 6, 0), api.ErrConflict},
		{"crossed", ring(0, 0, 4, 4, 4, 0, 0, 4), api.ErrConflict},
		{"corner on a side", ring(0, 0, 4, 0, 4, 4, 2, 0, 0, 4), api.ErrConflict},
		{"sides on a line", ring(0, 0, 9, 0, 9, 5, 6, 5, 6, 0, 3, 0, 3, 5, 0, 5), api.ErrConflict},
		{"sides nearly touch", ring(0, 0, 9, 0, 9, 5, 6, 5, 6, 1, 3, 1, 3, 5, 0, 5), api.OK},
		{"sharp corner", ring(-far, 0, far, 0, far, 1), api.OK},
	} {
		if e := polygon.CheckRing(c.r); e != c.e {
			t.Errorf("%s: %v, not %v", c.name, e, c.e)
		}
	}
}

func TestCheckRegion(t *testing.T) {
	var most, corners []api.Ring
	for i := range api.MaxRings {
		most = append(most, square(10*i, 0, 5))
	}
	for i := range 4 {
		r := comb(api.MaxRing)
		for k := range r {
			r[k].Y += 100 * i
		}
		corners = append(corners, r)
	}
	for _, c := range []struct {
		name string
		r    []api.Ring
		e    api.Errno
	}{
		{"none", nil, api.OK},
		{"one", []api.Ring{square(0, 0, 9)}, api.OK},
		{"hole and island", []api.Ring{square(3, 3, 1), square(0, 0, 9), square(2, 2, 3)}, api.OK},
		{"most rings", most, api.OK},
		{"too many rings", append([]api.Ring{nil}, most...), api.ErrLarge},
		{"most corners", corners, api.OK},
		{"too many corners", append([]api.Ring{ring(0, 0)}, corners...), api.ErrLarge},
		{"an invalid ring", []api.Ring{square(0, 0, 9), ring(0, 0)}, api.ErrForm},
		{"two invalid rings", []api.Ring{square(0, 0, 9), ring(0, 0, 0, 0, 1, 1), nil}, api.ErrTwice},
		{"meet, an invalid ring", []api.Ring{square(0, 0, 9), square(0, 0, 9), nil}, api.ErrForm},
		{"the same", []api.Ring{square(0, 0, 9), square(0, 0, 9)}, api.ErrConflict},
		{"cross", []api.Ring{square(0, 0, 9), square(5, 5, 9)}, api.ErrConflict},
		{"touch at a corner", []api.Ring{square(0, 0, 9), square(9, 9, 9)}, api.ErrConflict},
		{"touch at a side", []api.Ring{square(0, 0, 9), square(20, 0, 3), square(9, 3, 3)}, api.ErrConflict},
		{"apart", []api.Ring{square(0, 0, 9), square(10, 0, 9)}, api.OK},
	} {
		if e := polygon.CheckRegion(c.r); e != c.e {
			t.Errorf("%s: %v, not %v", c.name, e, c.e)
		}
	}
}

func cross(a, b api.Point) int { return a.X*b.Y - a.Y*b.X }

func dot(a, b api.Point) int { return a.X*b.X + a.Y*b.Y }

func minus(a, b api.Point) api.Point { return api.Point{X: a.X - b.X, Y: a.Y - b.Y} }

// between reports whether n / d is from 0 to 1.
func between(n, d int) bool {
	if d < 0 {
		n, d = -n, -d
	}
	return n >= 0 && n <= d
}

// meet solves p + t r = q + u s.
func meet(p, p2, q, q2 api.Point) bool {
	r, s, w := minus(p2, p), minus(q2, q), minus(q, p)
	if d := cross(r, s); d != 0 {
		return between(cross(w, s), d) && between(cross(w, r), d)
	}
	if cross(w, r) != 0 {
		return false
	}
	a, b := dot(w, r), dot(minus(q2, p), r)
	return max(a, b) >= 0 && min(a, b) <= dot(r, r)
}

// slowCheck is CheckRegion for few rings with at least three corners that are in range.
func slowCheck(region []api.Ring) api.Errno {
	for _, r := range region {
		e := api.OK
		for i, p := range r {
			for k := range i {
				if p == r[k] {
					return api.ErrTwice
				}
				p2, q, q2 := r[(i+1)%len(r)], r[k], r[(k+1)%len(r)]
				switch {
				case p == q2 && q == p2:
					e = api.ErrConflict
				case p == q2:
					if cross(minus(p2, p), minus(q, p)) == 0 && dot(minus(p2, p), minus(q, p)) > 0 {
						e = api.ErrConflict
					}
				case q == p2:
					if cross(minus(q2, q), minus(p, q)) == 0 && dot(minus(q2, q), minus(p, q)) > 0 {
						e = api.ErrConflict
					}
				case meet(p, p2, q, q2):
					e = api.ErrConflict
				}
			}
		}
		if e != api.OK {
			return e
		}
	}
	for i, r := range region {
		for _, o := range region[:i] {
			for a, p := range r {
				for b, q := range o {
					if meet(p, r[(a+1)%len(r)], q, o[(b+1)%len(o)]) {
						return api.ErrConflict
					}
				}
			}
		}
	}
	return api.OK
}

// random is rings that may be a region, or not.
func random(r *rand.Rand) []api.Ring {
	var region []api.Ring
	for range 1 + r.Intn(3) {
		var next api.Ring
		x, y, wide := r.Intn(20)-10, r.Intn(20)-10, 2+r.Intn(20)
		for range 3 + r.Intn(4) {
			next = append(next, api.Point{X: x + r.Intn(wide), Y: y + r.Intn(wide)})
		}
		region = append(region, next)
	}
	return region
}

func TestCheckRandom(t *testing.T) {
	r := rand.New(rand.NewSource(1))
	count := make(map[api.Errno]int)
	for range 30_000 {
		region := random(r)
		want := slowCheck(region)
		count[want]++
		if e := polygon.CheckRegion(region); e != want {
			t.Fatal(region, e, want)
		}
	}
	if count[api.OK] < 1000 || count[api.ErrTwice] < 1000 || count[api.ErrConflict] < 1000 {
		t.Error(count)
	}
}

// covers reports whether a point is inside a region, or on a side.
func covers(region []api.Ring, p api.Point) bool {
	inside := false
	for _, r := range region {
		for i, a := range r {
			b := r[(i+1)%len(r)]
			if meet(a, b, p, p) {
				return true
			}
			if (a.Y > p.Y) != (b.Y > p.Y) && (cross(minus(b, a), minus(p, a)) > 0) == (b.Y > a.Y) {
				inside = !inside
			}
		}
	}
	return inside
}

// slowFilled is Filled for a region within 100 micrometres.
func slowFilled(region []api.Ring, step int) api.Cells {
	left, right, low, high := 1000, -1000, 1000, -1000
	at := func(column, row int) bool {
		return covers(region, api.Point{X: column*step + step/2, Y: row*step + step/2})
	}
	n := 100/step + 1
	for row := -n; row <= n; row++ {
		for column := -n; column <= n; column++ {
			if at(column, row) {
				left, right = min(left, column), max(right, column)
				low, high = min(low, row), max(high, row)
			}
		}
	}
	if left > right {
		return api.Cells{Step: step}
	}
	c := api.Cells{Step: step, X: left * step, Y: low * step}
	for row := low; row <= high; row++ {
		text := ""
		for column := left; column <= right; column++ {
			if at(column, row) {
				text += "#"
			} else {
				text += "."
			}
		}
		c.Rows = append(c.Rows, text)
	}
	return c
}

func TestFilledRandom(t *testing.T) {
	r := rand.New(rand.NewSource(2))
	full := 0
	for filled := 0; filled < 1500; {
		region := random(r)
		if polygon.CheckRegion(region) != api.OK {
			continue
		}
		filled++
		step := 2 + 2*r.Intn(4)
		want := slowFilled(region, step)
		if len(want.Rows) > 0 {
			full++
		}
		if got, e := polygon.Filled(region, step); e != api.OK || !reflect.DeepEqual(got, want) {
			t.Fatal(region, step, got, want, e)
		}
	}
	if full < 1000 {
		t.Error(full)
	}
}

func TestFilled(t *testing.T) {
	for _, c := range []struct {
		name string
		r    []api.Ring
		step int
		want api.Cells
	}{
		{"none", nil, 4, api.Cells{Step: 4}},
		{"example", []api.Ring{square(0, 0, 10), ring(4, 4, 4, 6, 6, 6, 6, 4)}, 2, api.Cells{Step: 2, Rows: []string{"#####", "#####", "##.##", "#####", "#####"}}},
		{"between centers", []api.Ring{square(-1, -1, 2)}, 4, api.Cells{Step: 4}},
		{"centers on sides and corners", []api.Ring{square(-2, -2, 4)}, 4, api.Cells{Step: 4, X: -4, Y: -4, Rows: []string{"##", "##"}}},
		{"centers on sides of a hole", []api.Ring{square(-6, -6, 12), square(-2, -2, 4)}, 4, api.Cells{Step: 4, X: -8, Y: -8, Rows: []string{"####", "####", "####", "####"}}},
		{"island", []api.Ring{square(0, 0, 10), square(1, 1, 8), square(2, 2, 6)}, 2, api.Cells{Step: 2, Rows: []string{"#####", "#####", "#####", "#####", "#####"}}},
		{"triangle", []api.Ring{ring(-3, 5, 5, 5, -3, 13)}, 2, api.Cells{Step: 2, X: -4, Y: 4, Rows: []string{"#####", "####.", "###..", "##...", "#...."}}},
	} {
		if got, e := polygon.Filled(c.r, c.step); e != api.OK || !reflect.DeepEqual(got, c.want) {
			t.Error(c.name, got, e)
		}
	}
	for _, step := range []int{least, -2, 0, 1, 3, api.MaxStep - 1, api.MaxStep + 1, api.MaxStep + 2, greatest} {
		if got, e := polygon.Filled(nil, step); e != api.ErrArg || !reflect.DeepEqual(got, api.Cells{}) {
			t.Error(step, got, e)
		}
		if got, e := polygon.Filled([]api.Ring{nil}, step); e != api.ErrForm || !reflect.DeepEqual(got, api.Cells{}) {
			t.Error(step, got, e)
		}
	}
	const far = api.MaxCoordinate
	if got, e := polygon.Filled([]api.Ring{square(-far, -far, 2*far)}, api.MaxStep); e != api.OK || len(got.Rows) != 20 || got.Rows[19] != "####################" || got.X != -far || got.Y != -far {
		t.Error(got, e)
	}
}

// Only the columns and rows of the corners count, whether their cells are covered or not.
func TestFilledFull(t *testing.T) {
	for _, c := range []struct {
		r api.Ring
		e api.Errno
	}{
		{ring(0, 0, 399, 0, 0, 2), api.OK},
		{ring(0, 0, 400, 0, 0, 2), api.ErrFull},
		{ring(-1, 0, 398, 0, 0, 2), api.ErrFull},
		{ring(0, 0, 2, 0, 0, 399), api.OK},
		{ring(0, 0, 2, 0, 0, 400), api.ErrFull},
		{ring(0, -1, 2, 0, 0, 398), api.ErrFull},
		{ring(-200, -200, 199, -200, 199, 199), api.OK},
	} {
		if got, e := polygon.Filled([]api.Ring{c.r}, 2); e != c.e || e != api.OK && !reflect.DeepEqual(got, api.Cells{}) {
			t.Error(c, got, e)
		}
	}
}
