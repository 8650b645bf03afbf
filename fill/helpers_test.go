package fill_test

import (
	"math/rand"
	"reflect"
	"slices"
	"strings"

	"beadlayer/api"
	"beadlayer/fill"
)

const (
	least    = -1 << 63
	greatest = 1<<63 - 1
	far      = api.MaxCoordinate
	edge     = 2_000_000
)

func point(x, y int) api.Point { return api.Point{X: x, Y: y} }

// open is a path with the points that are told as X, Y, X, Y ..
func open(n ...int) api.Path {
	var p api.Path
	for i := 0; i < len(n); i += 2 {
		p.Points = append(p.Points, point(n[i], n[i+1]))
	}
	return p
}

func closed(n ...int) api.Path {
	p := open(n...)
	p.Closed = true
	return p
}

func paths(p ...api.Path) []api.Path { return p }

func samePaths(a, b []api.Path) bool {
	return slices.EqualFunc(a, b, func(x, y api.Path) bool { return x.Closed == y.Closed && slices.Equal(x.Points, y.Points) })
}

func cells(step, x, y int, rows ...string) api.Cells {
	return api.Cells{Step: step, X: x, Y: y, Rows: rows}
}

func sameCells(a, b api.Cells) bool {
	return a.Step == b.Step && a.X == b.X && a.Y == b.Y && slices.Equal(a.Rows, b.Rows)
}

// frame is the document's example.
func frame() api.Cells { return cells(10, 0, 0, "###", "#.#", "###") }

// full are cells all of which are covered.
func full(step, x, y, columns, rows int) api.Cells {
	c := cells(step, x, y)
	for range rows {
		c.Rows = append(c.Rows, strings.Repeat("#", columns))
	}
	return c
}

// chess has every second cell, of as many as there can be.
func chess(step int) api.Cells {
	c := full(step, 0, 0, api.MaxGrid, api.MaxGrid)
	for i := range c.Rows {
		c.Rows[i] = strings.Repeat("#.", api.MaxGrid)[i%2:][:api.MaxGrid]
	}
	return c
}

// set is covered cells, by column and row.
type set map[[2]int]bool

func setOf(c api.Cells) set {
	s := make(set)
	for i, row := range c.Rows {
		for k := range len(row) {
			if row[k] == '#' {
				s[[2]int{c.X/c.Step + k, c.Y/c.Step + i}] = true
			}
		}
	}
	return s
}

// kept are those of the set that a function accepts.
func (s set) kept(accepts func(column, row int) bool) set {
	some := make(set)
	for p := range s {
		if accepts(p[0], p[1]) {
			some[p] = true
		}
	}
	return some
}

// box is the least and the greatest column, and the least and the greatest row.
func (s set) box() (int, int, int, int) {
	left, right, low, high := greatest, least, greatest, least
	for p := range s {
		left, right = min(left, p[0]), max(right, p[0])
		low, high = min(low, p[1]), max(high, p[1])
	}
	return left, right, low, high
}

func (s set) cells(step int) api.Cells {
	if len(s) == 0 {
		return api.Cells{Step: step}
	}
	left, right, low, high := s.box()
	c := api.Cells{Step: step, X: left * step, Y: low * step}
	for row := low; row <= high; row++ {
		text := ""
		for column := left; column <= right; column++ {
			if s[[2]int{column, row}] {
				text += "#"
			} else {
				text += "."
			}
		}
		c.Rows = append(c.Rows, text)
	}
	return c
}

// parts are the sets of cells that are connected, in the order of their first cells (by row, then column).
func (s set) parts() []set {
	var all []set
	met := make(set)
	left, right, low, high := s.box()
	for row := low; row <= high; row++ {
		for column := left; column <= right; column++ {
			part := make(set)
			s.reach([2]int{column, row}, met, part)
			if len(part) > 0 {
				all = append(all, part)
			}
		}
	}
	return all
}

func (s set) reach(p [2]int, met, part set) {
	if !s[p] || met[p] {
		return
	}
	met[p], part[p] = true, true
	for _, step := range [][2]int{{1, 0}, {-1, 0}, {0, 1}, {0, -1}} {
		s.reach([2]int{p[0] + step[0], p[1] + step[1]}, met, part)
	}
}

// randomSet has cells near a place, more or fewer of them.
func randomSet(r *rand.Rand, column, row int) set {
	s := make(set)
	wide, high, dense := 1+r.Intn(10), 1+r.Intn(10), r.Intn(11)
	for k := range wide {
		for i := range high {
			if r.Intn(10) < dense {
				s[[2]int{column + k, row + i}] = true
			}
		}
	}
	return s
}

func randomCells(r *rand.Rand, step int) api.Cells {
	return randomSet(r, r.Intn(12)-10, r.Intn(12)-10).cells(step)
}

// randomPath has points that are centers of cells in most cases.
func randomPath(r *rand.Rand, step int) api.Path {
	p := api.Path{Closed: r.Intn(2) == 0}
	for range 1 + r.Intn(5) {
		next := point((r.Intn(24)-12)*step+step/2, (r.Intn(24)-12)*step+step/2)
		switch {
		case r.Intn(4) == 0:
			next.X += r.Intn(step)
		case len(p.Points) > 0 && r.Intn(3) == 0:
			next.Y = p.Points[0].Y
		case len(p.Points) > 0 && r.Intn(3) == 0:
			next.X = p.Points[0].X
		}
		p.Points = append(p.Points, next)
	}
	return p
}

func isZero(value any) bool {
	v := reflect.ValueOf(value)
	if v.Kind() == reflect.Slice {
		return v.Len() == 0
	}
	return v.IsZero()
}

// call is a function of the package, with all its arguments.
type call struct {
	name string
	run  func() ([]any, api.Errno)
}

// withCells are all functions with cells, and numbers or paths.
func withCells(c api.Cells, quarter, n, phase int, p []api.Path) []call {
	return []call{
		{"Lines", func() ([]any, api.Errno) { l, e := fill.Lines(c, quarter, n, phase); return []any{l}, e }},
		{"Zigzag", func() ([]any, api.Errno) { l, e := fill.Zigzag(c, quarter, n, phase); return []any{l}, e }},
		{"Covered", func() ([]any, api.Errno) { x, e := fill.Covered(c, p); return []any{x}, e }},
		{"Left", func() ([]any, api.Errno) { x, e := fill.Left(c, p); return []any{x}, e }},
		{"Density", func() ([]any, api.Errno) { f, e := fill.Density(c, p); return []any{f}, e }},
		{"Walls", func() ([]any, api.Errno) { w, in, e := fill.Walls(c, n); return []any{w, in}, e }},
		{"Quarter", func() ([]any, api.Errno) { q, n, e := fill.Quarter(c); return []any{q, n}, e }},
		{"Least", func() ([]any, api.Errno) { n, e := fill.Least(c, quarter, n); return []any{n}, e }},
	}
}

// withLayers are all functions with several cells.
func withLayers(l []api.Cells, layer int, s api.Style, f api.Filling) []call {
	below, c := api.Cells{}, api.Cells{}
	if len(l) > 1 {
		below, c = l[0], l[1]
	}
	return []call{
		{"Solid", func() ([]any, api.Errno) { x, e := fill.Solid(l, layer, s.Top, s.Bottom); return []any{x}, e }},
		{"Plan", func() ([]any, api.Errno) { p, e := fill.Plan(l, s); return []any{p}, e }},
		{"Whole", func() ([]any, api.Errno) { x, e := fill.Whole(f); return []any{x}, e }},
		{"Bridges", func() ([]any, api.Errno) { b, e := fill.Bridges(below, c); return []any{b}, e }},
	}
}
