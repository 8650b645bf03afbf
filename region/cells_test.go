package region_test

import (
	"math/rand"
	"slices"
	"strings"
	"testing"

	"beadlayer/api"
	"beadlayer/region"
)

// P3.3: each condition, at its bounds, and the first one of several.
func TestCheckCells(t *testing.T) {
	wide := strings.Repeat("#", api.MaxGrid)
	var high []string
	for range api.MaxGrid {
		high = append(high, "#")
	}
	for _, c := range []struct {
		c api.Cells
		e api.Errno
	}{
		{cells(2, 0, 0), api.OK},
		{cells(api.MaxStep, 0, 0), api.OK},
		{cells(0, 0, 0), api.ErrArg},
		{cells(1, 0, 0), api.ErrArg},
		{cells(3, 0, 0), api.ErrArg},
		{cells(-2, 0, 0, "#"), api.ErrArg},
		{cells(api.MaxStep-1, 0, 0), api.ErrArg},
		{cells(api.MaxStep+1, 0, 0), api.ErrArg},
		{cells(api.MaxStep+2, 0, 0), api.ErrArg},
		{cells(least, least, 0, "x"), api.ErrArg},
		{cells(greatest, 0, 0), api.ErrArg},
		{cells(2, 2, 0), api.ErrForm},
		{cells(2, 0, -2), api.ErrForm},
		{cells(2, greatest, least), api.ErrForm},
		{cells(2, 0, 0, "#"), api.OK},
		{cells(2, 0, 0, high...), api.OK},
		{cells(2, 0, 0, append([]string{"x", "##"}, high...)...), api.ErrLarge},
		{cells(2, 0, 0, wide, wide), api.OK},
		{cells(2, 0, 0, wide+"#"), api.ErrLarge},
		{cells(2, greatest, 0, wide+"#"), api.ErrLarge},
		{cells(2, 0, 0, wide+"x"), api.ErrSyntax},
		{cells(2, 0, 0, wide+"#", "#"), api.ErrForm},
		{cells(2, 0, 0, "##", "#"), api.ErrForm},
		{cells(2, 0, 0, "#", "##"), api.ErrForm},
		{cells(2, 0, 0, "#", "##", "x"), api.ErrForm},
		{cells(2, 0, 0, "#", "x", "##"), api.ErrSyntax},
		{cells(2, 0, 0, "##", "x"), api.ErrForm},
		{cells(2, 0, 0, "#x#"), api.ErrSyntax},
		{cells(2, 0, 0, "x##"), api.ErrSyntax},
		{cells(2, 0, 0, "## "), api.ErrSyntax},
		{cells(2, 0, 0, "#\n#"), api.ErrSyntax},
		{cells(2, 0, 0, "#\x00#"), api.ErrSyntax},
		{cells(2, 0, 0, "#\xff#"), api.ErrSyntax},
		{cells(2, 0, 0, "#é"), api.ErrSyntax},
		{cells(2, 1, 0, "x"), api.ErrSyntax},
		{cells(2, edge, -edge, "#"), api.OK},
		{cells(2, -edge, edge, "##", "##"), api.OK},
		{cells(2, edge+2, 0, "#"), api.ErrArg},
		{cells(2, -edge-2, 0, "#"), api.ErrArg},
		{cells(2, 0, edge+2, "#"), api.ErrArg},
		{cells(2, 0, -edge-2, "#"), api.ErrArg},
		{cells(2, 1, edge+1, "."), api.ErrArg},
		{cells(2, least, 0, "#"), api.ErrArg},
		{cells(2, 0, greatest, "#"), api.ErrArg},
		{cells(10, 5, 0, "#"), api.ErrForm},
		{cells(10, 0, 5, "#"), api.ErrForm},
		{cells(10, -5, 0, "#"), api.ErrForm},
		{cells(10, 0, -15, "#"), api.ErrForm},
		{cells(10, 20, -30, "#"), api.OK},
		{cells(2, 0, 0, ""), api.ErrForm},
		{cells(2, 0, 0, "", ""), api.ErrForm},
		{cells(2, edge+2, 0, ""), api.ErrArg},
		{cells(2, 0, 0, "."), api.ErrForm},
		{cells(2, 0, 0, "..", "##"), api.ErrForm},
		{cells(2, 0, 0, "##", ".."), api.ErrForm},
		{cells(2, 0, 0, ".#", ".#"), api.ErrForm},
		{cells(2, 0, 0, "#.", "#."), api.ErrForm},
		{cells(2, 0, 0, "#.", ".#"), api.OK},
		{cells(2, 0, 0, ".#.", "...", "#.#", ".#."), api.OK},
	} {
		if e := region.CheckCells(c.c); e != c.e {
			t.Errorf("%.200v: %v, not %v", c.c, e, c.e)
		}
	}
}

// P3.3: the same cells always are the same value.
func TestCheckCellsRandom(t *testing.T) {
	r := rand.New(rand.NewSource(7))
	valid := 0
	for range 20_000 {
		c := api.Cells{Step: 2 + 2*r.Intn(3)}
		wide := r.Intn(5)
		for range r.Intn(5) {
			row := ""
			for range wide {
				row += string("#."[r.Intn(2)])
			}
			c.Rows = append(c.Rows, row)
		}
		c.X, c.Y = c.Step*(r.Intn(5)-2), c.Step*(r.Intn(5)-2)
		want := api.OK
		if !sameCells(setOf(c).cells(c.Step), c) {
			want = api.ErrForm
		} else {
			valid++
		}
		if e := region.CheckCells(c); e != want {
			t.Fatal(c, e, want)
		}
	}
	if valid < 1000 {
		t.Error(valid)
	}
}

// P3.3: the cells of a region (the tests of package polygon have more of them).
func TestFilled(t *testing.T) {
	for _, c := range []struct {
		r    []api.Ring
		step int
		want api.Cells
		e    api.Errno
	}{
		{nil, 4, cells(4, 0, 0), api.OK},
		{frame(), 2, cells(2, 0, 0, "#####", "#####", "##.##", "#####", "#####"), api.OK},
		{frame(), 4, cells(4, 0, 0, "###", "###", "###"), api.OK},
		{[]api.Ring{square(-1, -1, 2)}, 4, cells(4, 0, 0), api.OK},
		{[]api.Ring{square(-6, -6, 12), square(-3, -3, 6)}, 4, cells(4, -8, -8, "####", "#..#", "#..#", "####"), api.OK},
		{[]api.Ring{square(-far, -far, 2*far)}, api.MaxStep, full(api.MaxStep, -far, -far, 20, 20), api.OK},
		{[]api.Ring{square(0, 0, 399)}, 2, full(2, 0, 0, 200, 200), api.OK},
		{[]api.Ring{square(0, 0, 400)}, 2, api.Cells{}, api.ErrFull},
		{[]api.Ring{ring(-1, 0, 0, 0, 399, 1)}, 2, api.Cells{}, api.ErrFull},
		{[]api.Ring{square(0, 0, 5), square(0, 396, 4)}, 2, api.Cells{}, api.ErrFull},
		{[]api.Ring{square(0, 0, 5), square(0, 395, 4)}, 2, corners2(), api.OK},
		{frame(), 0, api.Cells{}, api.ErrArg},
		{frame(), 3, api.Cells{}, api.ErrArg},
		{frame(), -2, api.Cells{}, api.ErrArg},
		{frame(), api.MaxStep + 2, api.Cells{}, api.ErrArg},
		{[]api.Ring{square(0, 0, 400)}, 1, api.Cells{}, api.ErrArg},
	} {
		if got, e := region.Filled(c.r, c.step); e != c.e || !sameCells(got, c.want) {
			t.Error(c, got, e)
		}
	}
}

// corners2 are the cells of a square of 5 micrometres at 0, 0, and one of 4 at 0, 395.
func corners2() api.Cells {
	c := full(2, 0, 0, 3, 200)
	for i := range c.Rows {
		switch {
		case i < 3:
		case i >= 197:
			c.Rows[i] = "##."
		default:
			c.Rows[i] = "..."
		}
	}
	return c
}

// P3.3: a cell is covered if its center is inside, or on a side.
func TestFilledRandom(t *testing.T) {
	r := rand.New(rand.NewSource(8))
	for range 500 {
		rings, step := randomRegion(r), 2+2*r.Intn(4)
		want := make(set)
		for column := -20; column < 20; column++ {
			for row := -20; row < 20; row++ {
				if slowInside(rings, point(column*step+step/2, row*step+step/2)) >= 0 {
					want[[2]int{column, row}] = true
				}
			}
		}
		if got, e := region.Filled(rings, step); e != api.OK || !sameCells(got, want.cells(step)) {
			t.Fatal(rings, step, got, e)
		}
	}
}

// P3.3: how many cells, and sides between covered ones and others.
func TestCount(t *testing.T) {
	for _, c := range []struct {
		c            api.Cells
		cells, sides int
	}{
		{cells(2, 0, 0), 0, 0},
		{cells(2, 0, 0, "#"), 1, 4},
		{cells(2, -4, 8, "##"), 2, 6},
		{cells(2, 0, 0, "#.", ".#"), 2, 8},
		{cells(2, 0, 0, "#####", "#####", "##.##", "#####", "#####"), 24, 24},
		{full(2, edge, edge, 200, 200), 40_000, 800},
	} {
		if n, k, e := region.Count(c.c); e != api.OK || n != c.cells || k != c.sides {
			t.Error(c, n, k, e)
		}
	}
	r := rand.New(rand.NewSource(9))
	for range 1000 {
		s := randomSet(r, r.Intn(9)-5, r.Intn(9)-5)
		sides := 0
		for p := range s {
			for _, q := range [][2]int{{p[0] + 1, p[1]}, {p[0] - 1, p[1]}, {p[0], p[1] + 1}, {p[0], p[1] - 1}} {
				if !s[q] {
					sides++
				}
			}
		}
		if n, k, e := region.Count(s.cells(4)); e != api.OK || n != len(s) || k != sides {
			t.Fatal(s.cells(4), n, k, e)
		}
	}
}

// P3.3: a cell has its left and its lower side.
func TestHas(t *testing.T) {
	c := cells(4, -8, 4, "#.#", "##.")
	for _, p := range []struct {
		x, y int
		want bool
	}{
		{-8, 4, true}, {-5, 7, true}, {-4, 4, false}, {-1, 7, false}, {0, 4, true}, {3, 7, true}, {4, 4, false}, {-9, 4, false}, {-8, 3, false},
		{-8, 8, true}, {-1, 11, true}, {0, 8, false}, {-8, 12, false}, {far, far, false}, {-far, -far, false},
	} {
		if is, e := region.Has(c, point(p.x, p.y)); e != api.OK || is != p.want {
			t.Error(p, is, e)
		}
	}
	for _, p := range []api.Point{point(far+1, 0), point(-far-1, 0), point(0, far+1), point(0, -far-1), point(least, least), point(greatest, 0)} {
		if is, e := region.Has(full(2, -edge, 0, 1, 1), p); e != api.ErrArg || is {
			t.Error(p, is, e)
		}
	}
	if is, e := region.Has(cells(2, 0, 0), point(0, 0)); e != api.OK || is {
		t.Error(is, e)
	}
	r := rand.New(rand.NewSource(10))
	for range 500 {
		s, step := randomSet(r, r.Intn(9)-6, r.Intn(9)-6), 2+2*r.Intn(3)
		for range 50 {
			column, row := r.Intn(24)-10, r.Intn(24)-10
			p := point(column*step+r.Intn(step), row*step+r.Intn(step))
			if is, e := region.Has(s.cells(step), p); e != api.OK || is != s[[2]int{column, row}] {
				t.Fatal(s.cells(step), p, is, e)
			}
		}
	}
}

// P3.3: with each row of a value, a check of it sees all.
func TestCheckCellsEachRow(t *testing.T) {
	for i := range 5 {
		c := full(2, 0, 0, 3, 5)
		c.Rows[i] = "#,#"
		if e := region.CheckCells(c); e != api.ErrSyntax {
			t.Error(i, e)
		}
		c.Rows = slices.Replace(c.Rows, i, i+1, "####")
		if e := region.CheckCells(c); e != api.ErrForm {
			t.Error(i, e)
		}
	}
}
