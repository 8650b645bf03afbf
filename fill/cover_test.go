package fill_test

import (
	"math/rand"
	"slices"
	"strings"
	"testing"

	"beadlayer/api"
	"beadlayer/fill"
)

// P4.2: the cells through whose centers a path leads, the other ones, and how many they are.
func TestCovered(t *testing.T) {
	square := full(10, 0, 0, 3, 3)
	for _, c := range []struct {
		name          string
		c             api.Cells
		p             []api.Path
		covered, left api.Cells
		density       api.Fraction
	}{
		{"no paths", square, nil, cells(10, 0, 0), square, api.Fraction{Num: 0, Den: 1}},
		{"a point", square, paths(open(15, 5)), cells(10, 10, 0, "#"), cells(10, 0, 0, "#.#", "###", "###"), api.Fraction{Num: 1, Den: 9}},
		{"a point of a closed path", square, paths(closed(25, 25)), cells(10, 20, 20, "#"), cells(10, 0, 0, "###", "###", "##."), api.Fraction{Num: 1, Den: 9}},
		{"points beside centers", square, paths(open(15, 4), open(14, 5), open(10, 10), open(0, 0), open(16, 6)), cells(10, 0, 0), square, api.Fraction{Num: 0, Den: 1}},
		{"a point twice", square, paths(open(15, 15, 15, 15)), cells(10, 10, 10, "#"), cells(10, 0, 0, "###", "#.#", "###"), api.Fraction{Num: 1, Den: 9}},
		{"a row", square, paths(open(5, 5, 25, 5)), cells(10, 0, 0, "###"), cells(10, 0, 10, "###", "###"), api.Fraction{Num: 1, Den: 3}},
		{"a row from the right", square, paths(open(25, 5, 5, 5)), cells(10, 0, 0, "###"), cells(10, 0, 10, "###", "###"), api.Fraction{Num: 1, Den: 3}},
		{"a part of a row", square, paths(open(6, 5, 24, 5)), cells(10, 10, 0, "#"), cells(10, 0, 0, "#.#", "###", "###"), api.Fraction{Num: 1, Den: 9}},
		{"a row beside the centers", square, paths(open(5, 6, 25, 6)), cells(10, 0, 0), square, api.Fraction{Num: 0, Den: 1}},
		{"a column", square, paths(open(15, 30, 15, 0)), cells(10, 10, 0, "#", "#", "#"), cells(10, 0, 0, "#.#", "#.#", "#.#"), api.Fraction{Num: 1, Den: 3}},
		{"a column beside the centers", square, paths(open(14, 30, 14, 0)), cells(10, 0, 0), square, api.Fraction{Num: 0, Den: 1}},
		{"from corner to corner", square, paths(open(0, 0, 30, 30)), cells(10, 0, 0, "#..", ".#.", "..#"), cells(10, 0, 0, ".##", "#.#", "##."), api.Fraction{Num: 1, Den: 3}},
		{"from corner to corner, down", square, paths(open(0, 30, 30, 0)), cells(10, 0, 0, "..#", ".#.", "#.."), cells(10, 0, 0, "##.", "#.#", ".##"), api.Fraction{Num: 1, Den: 3}},
		{"a steep way", square, paths(open(5, 5, 15, 25)), cells(10, 0, 0, "#.", "..", ".#"), cells(10, 0, 0, ".##", "###", "#.#"), api.Fraction{Num: 2, Den: 9}},
		{"a flat way", square, paths(open(25, 15, 5, 5)), cells(10, 0, 0, "#..", "..#"), cells(10, 0, 0, ".##", "##.", "###"), api.Fraction{Num: 2, Den: 9}},
		{"a way that almost meets a center", square, paths(open(5, 5, 25, 24)), cells(10, 0, 0, "#"), cells(10, 0, 0, ".##", "###", "###"), api.Fraction{Num: 1, Den: 9}},
		{"an open way", square, paths(open(5, 5, 25, 5, 25, 25)), cells(10, 0, 0, "###", "..#", "..#"), cells(10, 0, 10, "##", "##"), api.Fraction{Num: 5, Den: 9}},
		{"a closed way", square, paths(closed(5, 5, 25, 5, 25, 25)), cells(10, 0, 0, "###", ".##", "..#"), cells(10, 0, 10, "#.", "##"), api.Fraction{Num: 2, Den: 3}},
		{"two points, closed", square, paths(closed(5, 5, 25, 5)), cells(10, 0, 0, "###"), cells(10, 0, 10, "###", "###"), api.Fraction{Num: 1, Den: 3}},
		{"several paths, none joined with another", square, paths(open(5, 5), open(25, 5), closed(5, 25)), cells(10, 0, 0, "#.#", "...", "#.."), cells(10, 0, 0, ".#.", "###", ".##"), api.Fraction{Num: 1, Den: 3}},
		{"all", square, paths(open(5, 5, 25, 5, 25, 15, 5, 15, 5, 25, 25, 25)), square, cells(10, 0, 0), api.Fraction{Num: 1, Den: 1}},
		{"cells that are not there", frame(), paths(open(-45, 15, 65, 15)), cells(10, 0, 10, "#.#"), cells(10, 0, 0, "###", "...", "###"), api.Fraction{Num: 1, Den: 4}},
		{"places outside", square, paths(open(-5, 5), open(35, 5), open(5, -5), open(5, 35), closed(-5, -5, 35, -5, 35, 35, -5, 35)), cells(10, 0, 0), square, api.Fraction{Num: 0, Den: 1}},
		{"below 0", cells(4, -8, -12, "##", "##"), paths(open(-6, -10, -2, -6), open(6, 10)), cells(4, -8, -12, "#.", ".#"), cells(4, -8, -12, ".#", "#."), api.Fraction{Num: 1, Den: 2}},
		{"the document's example", frame(), paths(open(5, 5, 25, 5), open(5, 5)), cells(10, 0, 0, "###"), cells(10, 0, 10, "#.#", "###"), api.Fraction{Num: 3, Den: 8}},
		{"the farthest points", full(10_000, -100_000, -100_000, 20, 20), paths(open(-far, -far, far, -far+10_000), open(-far, far, far, -far)), diagonal(20), minus(full(10_000, -far, -far, 20, 20), diagonal(20)), api.Fraction{Num: 1, Den: 20}},
	} {
		if got, e := fill.Covered(c.c, c.p); e != api.OK || !sameCells(got, c.covered) {
			t.Error(c.name, got, e)
		}
		if got, e := fill.Left(c.c, c.p); e != api.OK || !sameCells(got, c.left) {
			t.Error(c.name, got, e)
		}
		if got, e := fill.Density(c.c, c.p); e != api.OK || got != c.density {
			t.Error(c.name, got, e)
		}
	}
}

// diagonal has the cells from the upper left to the lower right, as far away as points can be.
func diagonal(n int) api.Cells {
	s := make(set)
	for i := range n {
		s[[2]int{i - n/2, n/2 - 1 - i}] = true
	}
	return s.cells(10_000)
}

func minus(a, b api.Cells) api.Cells {
	other := setOf(b)
	return setOf(a).kept(func(column, row int) bool { return !other[[2]int{column, row}] }).cells(a.Step)
}

// isOn reports whether a point is on the straight way between two others.
func isOn(p, from, to api.Point) bool {
	turn := (to.X-from.X)*(p.Y-from.Y) - (to.Y-from.Y)*(p.X-from.X)
	inX := p.X >= min(from.X, to.X) && p.X <= max(from.X, to.X)
	inY := p.Y >= min(from.Y, to.Y) && p.Y <= max(from.Y, to.Y)
	return turn == 0 && inX && inY
}

// leads reports whether a path leads through a point.
func leads(path api.Path, p api.Point) bool {
	points := slices.Clone(path.Points)
	if path.Closed {
		points = append(points, points[0])
	}
	for i := range points {
		if points[i] == p || i > 0 && isOn(p, points[i-1], points[i]) {
			return true
		}
	}
	return false
}

func TestCoveredRandom(t *testing.T) {
	r := rand.New(rand.NewSource(5))
	between := 0
	for range 10_000 {
		step := 2 + 2*r.Intn(3)
		c := randomCells(r, step)
		var all []api.Path
		for range r.Intn(4) {
			all = append(all, randomPath(r, step))
		}
		s := setOf(c)
		printed := func(column, row int) bool {
			return slices.ContainsFunc(all, func(p api.Path) bool { return leads(p, point(column*step+step/2, row*step+step/2)) })
		}
		covered := s.kept(printed)
		left := s.kept(func(column, row int) bool { return !printed(column, row) })
		if len(covered) > 3 {
			between++
		}
		if got, e := fill.Covered(c, all); e != api.OK || !sameCells(got, covered.cells(step)) {
			t.Fatal(c, all, got, e)
		}
		if got, e := fill.Left(c, all); e != api.OK || !sameCells(got, left.cells(step)) {
			t.Fatal(c, all, got, e)
		}
		f, e := fill.Density(c, all)
		if len(s) > 0 && (e != api.OK || f.Num*len(s) != f.Den*len(covered) || f.Den < 1) {
			t.Fatal(c, all, f, e)
		}
		for n := 2; n <= f.Den; n++ {
			if f.Num%n == 0 && f.Den%n == 0 {
				t.Fatal("not in lowest terms", f)
			}
		}
	}
	if between < 200 {
		t.Error(between)
	}
}

// P4.2: each error, at its bounds, and the first one of several.
func TestCoveredErrors(t *testing.T) {
	one := full(2, 0, 0, 1, 1)
	none, at := api.Path{}, open(0, 0)
	long := api.Path{Points: make([]api.Point, api.MaxRing)}
	longer := api.Path{Points: append(make([]api.Point, api.MaxRing), point(greatest, 0))}
	for _, c := range []struct {
		name string
		c    api.Cells
		p    []api.Path
		e    api.Errno
	}{
		{"nothing wrong", one, paths(at, long, open(far, -far), closed(-far, far)), api.OK},
		{"cells first", cells(2, 2, 0), slices.Repeat(paths(none), api.MaxPaths+1), api.ErrForm},
		{"the step first", cells(0, 0, 0), paths(none), api.ErrArg},
		{"a row of another length", cells(2, 0, 0, "##", "#"), paths(none), api.ErrForm},
		{"as many paths as there can be", one, slices.Repeat(paths(at), api.MaxPaths), api.OK},
		{"too many paths", one, slices.Repeat(paths(none), api.MaxPaths+1), api.ErrLarge},
		{"no points", one, paths(at, none, longer), api.ErrNone},
		{"no points of a closed path", one, paths(api.Path{Closed: true}), api.ErrNone},
		{"too many points", one, paths(at, longer, none), api.ErrLarge},
		{"too far in X", one, paths(open(0, 0, far+1, 0), none), api.ErrArg},
		{"too far in -X", one, paths(open(0, 0, -far-1, 0), longer), api.ErrArg},
		{"too far in Y", one, paths(open(0, far+1)), api.ErrArg},
		{"too far in -Y", one, paths(closed(0, 0, 0, 1, 1, -far-1)), api.ErrArg},
		{"much too far", one, paths(open(least, greatest)), api.ErrArg},
		{"no cells", cells(2, 0, 0), paths(at, none), api.ErrNone},
	} {
		if got, e := fill.Covered(c.c, c.p); e != c.e || e != api.OK && !isZero(got) {
			t.Error(c.name, got, e)
		}
		if got, e := fill.Left(c.c, c.p); e != c.e || e != api.OK && !isZero(got) {
			t.Error(c.name, got, e)
		}
		if got, e := fill.Density(c.c, c.p); e != c.e || e != api.OK && !isZero(got) {
			t.Error(c.name, got, e)
		}
	}
}

// P4.2: only Density needs cells, and asks for them at the end.
func TestNoCells(t *testing.T) {
	empty := cells(2, 0, 0)
	if got, e := fill.Covered(empty, paths(open(1, 1, 9, 9))); e != api.OK || !sameCells(got, empty) {
		t.Error(got, e)
	}
	if got, e := fill.Left(empty, paths(open(1, 1, 9, 9))); e != api.OK || !sameCells(got, empty) {
		t.Error(got, e)
	}
	for _, p := range [][]api.Path{nil, paths(open(1, 1))} {
		if got, e := fill.Density(empty, p); e != api.ErrNone || !isZero(got) {
			t.Error(got, e)
		}
	}
	if got, e := fill.Density(empty, paths(open(far+1, 1))); e != api.ErrArg || !isZero(got) {
		t.Error(got, e)
	}
}

// P4.2: cells that begin too far away are no valid result, as in chapter 3.
func TestLeftTooFar(t *testing.T) {
	c := cells(10_000, 90_000, 0, "#"+strings.Repeat(".", 197)+"##")
	if got, e := fill.Left(c, paths(open(95_000, 5_000))); e != api.ErrArg || !isZero(got) {
		t.Error(got, e)
	}
	if got, e := fill.Covered(c, paths(open(95_000, 5_000))); e != api.OK || !sameCells(got, cells(10_000, 90_000, 0, "#")) {
		t.Error(got, e)
	}
}
