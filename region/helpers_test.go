package region_test

import (
	"math/rand"
	"reflect"
	"slices"
	"strings"

	"beadlayer/api"
	"beadlayer/region"
)

const (
	least    = -1 << 63
	greatest = 1<<63 - 1
	far      = api.MaxCoordinate
	edge     = 2_000_000
)

func point(x, y int) api.Point { return api.Point{X: x, Y: y} }

// ring has the corners that are told as X, Y, X, Y ..
func ring(n ...int) api.Ring {
	var r api.Ring
	for i := 0; i < len(n); i += 2 {
		r = append(r, point(n[i], n[i+1]))
	}
	return r
}

func square(x, y, size int) api.Ring {
	return ring(x, y, x+size, y, x+size, y+size, x, y+size)
}

// frame is the document's example.
func frame() []api.Ring {
	return []api.Ring{square(0, 0, 10), ring(4, 4, 4, 6, 6, 6, 6, 4)}
}

// comb has any even number of corners from 4 on.
func comb(corners int) api.Ring {
	var r api.Ring
	for i := range corners / 2 {
		r = append(r, point(2*i, 10*(i%2)))
	}
	for i := corners/2 - 1; i >= 0; i-- {
		r = append(r, point(2*i, 10*(i%2)+5))
	}
	return r
}

// combs have the most corners that a region may have, in four rings.
func combs() []api.Ring {
	var all []api.Ring
	for i := range 4 {
		r := comb(api.MaxRing)
		for k := range r {
			r[k].Y += 100 * i
		}
		all = append(all, r)
	}
	return all
}

// squares are n rings next to each other.
func squares(n int) []api.Ring {
	var all []api.Ring
	for i := range n {
		all = append(all, square(10*i, 0, 5))
	}
	return all
}

// randomRegion is valid, with 1 to 5 rings between -30 and 30, in any order, one in another in many cases.
func randomRegion(r *rand.Rand) []api.Ring {
	var all []api.Ring
	for range 1 + r.Intn(5) {
		for range 30 {
			next := randomRing(r)
			if region.CheckRegion(append(slices.Clone(all), next)) == api.OK {
				all = append(all, next)
				break
			}
		}
	}
	if len(all) == 0 {
		return randomRegion(r)
	}
	r.Shuffle(len(all), func(i, k int) { all[i], all[k] = all[k], all[i] })
	return all
}

// randomRing is around 0, 0 in most cases; it may be invalid.
func randomRing(r *rand.Rand) api.Ring {
	wide := 2 + r.Intn(29)
	switch r.Intn(4) {
	case 0:
		return square(-wide, -wide, 2*wide)
	case 1:
		return ring(-wide, r.Intn(9), r.Intn(9), -wide, wide, r.Intn(9), r.Intn(9), wide)
	}
	x, y := r.Intn(61-wide)-30, r.Intn(61-wide)-30
	var next api.Ring
	for range 3 + r.Intn(5) {
		next = append(next, point(x+r.Intn(wide), y+r.Intn(wide)))
	}
	return next
}

func copied(r []api.Ring) []api.Ring {
	var all []api.Ring
	for _, ring := range r {
		all = append(all, slices.Clone(ring))
	}
	return all
}

// sameRings compares regions: an empty one and none are the same.
func sameRings(a, b []api.Ring) bool {
	return slices.EqualFunc(a, b, func(x, y api.Ring) bool { return slices.Equal(x, y) })
}

func cells(step, x, y int, rows ...string) api.Cells {
	return api.Cells{Step: step, X: x, Y: y, Rows: rows}
}

func sameCells(a, b api.Cells) bool {
	return a.Step == b.Step && a.X == b.X && a.Y == b.Y && slices.Equal(a.Rows, b.Rows)
}

// set is covered cells, by column and row.
type set map[[2]int]bool

func setOf(c api.Cells) set {
	s := make(set)
	for i, row := range c.Rows {
		for k := range len(row) {
			if row[k] == '#' {
				s[[2]int{c.X/c.Step + k, c.Y/c.Step + i}] = true
			}
		}
	}
	return s
}

// box is the least and the greatest column, and the least and the greatest row.
func (s set) box() (int, int, int, int) {
	left, right, low, high := greatest, least, greatest, least
	for p := range s {
		left, right = min(left, p[0]), max(right, p[0])
		low, high = min(low, p[1]), max(high, p[1])
	}
	return left, right, low, high
}

func (s set) cells(step int) api.Cells {
	if len(s) == 0 {
		return api.Cells{Step: step}
	}
	left, right, low, high := s.box()
	c := api.Cells{Step: step, X: left * step, Y: low * step}
	for row := low; row <= high; row++ {
		text := ""
		for column := left; column <= right; column++ {
			if s[[2]int{column, row}] {
				text += "#"
			} else {
				text += "."
			}
		}
		c.Rows = append(c.Rows, text)
	}
	return c
}

// randomSet has cells near a place, more or fewer of them.
func randomSet(r *rand.Rand, column, row int) set {
	s := make(set)
	wide, high, dense := 1+r.Intn(9), 1+r.Intn(9), r.Intn(11)
	for k := range wide {
		for i := range high {
			if r.Intn(10) < dense {
				s[[2]int{column + k, row + i}] = true
			}
		}
	}
	return s
}

// full are cells all of which are covered.
func full(step, x, y, columns, rows int) api.Cells {
	c := cells(step, x, y)
	for range rows {
		c.Rows = append(c.Rows, strings.Repeat("#", columns))
	}
	return c
}

// corners are two covered cells at the corners of a box.
func corners(step, x, y, columns, rows int) api.Cells {
	c := cells(step, x, y)
	for i := range rows {
		row := []byte(strings.Repeat(".", columns))
		if i == 0 {
			row[0] = '#'
		}
		if i == rows-1 {
			row[columns-1] = '#'
		}
		c.Rows = append(c.Rows, string(row))
	}
	return c
}

func isZero(value any) bool {
	v := reflect.ValueOf(value)
	if v.Kind() == reflect.Slice {
		return v.Len() == 0
	}
	return v.IsZero()
}

// call is a function of the package, with all its arguments.
type call struct {
	name string
	run  func() ([]any, api.Errno)
}

// withRegion are all functions with a region.
func withRegion(r []api.Ring, p api.Point, step int) []call {
	return []call{
		{"CheckRegion", func() ([]any, api.Errno) { return nil, region.CheckRegion(r) }},
		{"Area", func() ([]any, api.Errno) { n, e := region.Area(r); return []any{n}, e }},
		{"Depths", func() ([]any, api.Errno) { l, e := region.Depths(r); return []any{l}, e }},
		{"Inside", func() ([]any, api.Errno) { n, e := region.Inside(r, p); return []any{n}, e }},
		{"Normal", func() ([]any, api.Errno) { l, e := region.Normal(r); return []any{l}, e }},
		{"Simplified", func() ([]any, api.Errno) { l, e := region.Simplified(r); return []any{l}, e }},
		{"Filled", func() ([]any, api.Errno) { c, e := region.Filled(r, step); return []any{c}, e }},
		{"Text", func() ([]any, api.Errno) { s, e := region.Text(r); return []any{s}, e }},
	}
}

// withPoints are all functions with a list of points.
func withPoints(p []api.Point) []call {
	return []call{
		{"CheckRing", func() ([]any, api.Errno) { return nil, region.CheckRing(p) }},
		{"Hull", func() ([]any, api.Errno) { r, e := region.Hull(p); return []any{r}, e }},
	}
}

// withCells are all functions with cells.
func withCells(a, b api.Cells, p api.Point, n int) []call {
	return []call{
		{"CheckCells", func() ([]any, api.Errno) { return nil, region.CheckCells(a) }},
		{"Count", func() ([]any, api.Errno) { n, k, e := region.Count(a); return []any{n, k}, e }},
		{"Has", func() ([]any, api.Errno) { is, e := region.Has(a, p); return []any{is}, e }},
		{"Union", func() ([]any, api.Errno) { c, e := region.Union(a, b); return []any{c}, e }},
		{"Both", func() ([]any, api.Errno) { c, e := region.Both(a, b); return []any{c}, e }},
		{"Minus", func() ([]any, api.Errno) { c, e := region.Minus(a, b); return []any{c}, e }},
		{"Grown", func() ([]any, api.Errno) { c, e := region.Grown(a, n); return []any{c}, e }},
		{"Shrunk", func() ([]any, api.Errno) { c, e := region.Shrunk(a, n); return []any{c}, e }},
		{"Parts", func() ([]any, api.Errno) { l, e := region.Parts(a); return []any{l}, e }},
		{"Closed", func() ([]any, api.Errno) { c, e := region.Closed(a); return []any{c}, e }},
	}
}
