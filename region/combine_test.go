package region_test

import (
	"math/rand"
	"slices"
	"testing"

	"beadlayer/api"
	"beadlayer/region"
)

// P3.4: what is covered in one, in both, or in the first one alone.
func TestCombined(t *testing.T) {
	a, b := cells(2, 0, 0, "##.", ".##"), cells(2, 2, 2, ".##", "###")
	for _, c := range []struct {
		name       string
		run        func(a, b api.Cells) (api.Cells, api.Errno)
		here, back api.Cells
	}{
		{"Union", region.Union, cells(2, 0, 0, "##..", ".###", ".###"), cells(2, 0, 0, "##..", ".###", ".###")},
		{"Both", region.Both, cells(2, 4, 2, "#"), cells(2, 4, 2, "#")},
		{"Minus", region.Minus, cells(2, 0, 0, "##", ".#"), cells(2, 2, 2, "..#", "###")},
	} {
		if got, e := c.run(a, b); e != api.OK || !sameCells(got, c.here) {
			t.Error(c.name, got, e)
		}
		if got, e := c.run(b, a); e != api.OK || !sameCells(got, c.back) {
			t.Error(c.name, got, e)
		}
	}
}

func TestCombinedRandom(t *testing.T) {
	r := rand.New(rand.NewSource(11))
	for range 5000 {
		a, b := randomSet(r, r.Intn(9)-6, r.Intn(9)-6), randomSet(r, r.Intn(9)-6, r.Intn(9)-6)
		union, both, minus := make(set), make(set), make(set)
		for p := range a {
			union[p] = true
			if b[p] {
				both[p] = true
			} else {
				minus[p] = true
			}
		}
		for p := range b {
			union[p] = true
		}
		x, y := a.cells(6), b.cells(6)
		if got, e := region.Union(x, y); e != api.OK || !sameCells(got, union.cells(6)) {
			t.Fatal(x, y, got, e)
		}
		if got, e := region.Union(y, x); e != api.OK || !sameCells(got, union.cells(6)) {
			t.Fatal(x, y, got, e)
		}
		if got, e := region.Both(x, y); e != api.OK || !sameCells(got, both.cells(6)) {
			t.Fatal(x, y, got, e)
		}
		if got, e := region.Minus(x, y); e != api.OK || !sameCells(got, minus.cells(6)) {
			t.Fatal(x, y, got, e)
		}
	}
}

// P3.4: different steps, results that are too large, results that are too far away.
func TestCombinedErrors(t *testing.T) {
	one := cells(2, 0, 0, "#")
	for _, c := range []struct {
		a, b               api.Cells
		union, both, minus api.Errno
	}{
		{one, cells(4, 0, 0, "#"), api.ErrForm, api.ErrForm, api.ErrForm},
		{one, cells(4, 0, 0), api.ErrForm, api.ErrForm, api.ErrForm},
		{one, cells(4, edge, edge, "#"), api.ErrForm, api.ErrForm, api.ErrForm},
		{cells(2, 0, 0), cells(4, 0, 0), api.ErrForm, api.ErrForm, api.ErrForm},
		{one, cells(2, 398, 0, "#"), api.OK, api.OK, api.OK},
		{one, cells(2, 400, 0, "#"), api.ErrFull, api.OK, api.OK},
		{one, cells(2, 0, 398, "#"), api.OK, api.OK, api.OK},
		{one, cells(2, 0, 400, "#"), api.ErrFull, api.OK, api.OK},
		{one, cells(2, 390, 0, "#####"), api.OK, api.OK, api.OK},
		{one, cells(2, 390, 0, "######"), api.ErrFull, api.OK, api.OK},
		{cells(2, -edge, 0, "#"), cells(2, edge, 0, "#"), api.ErrFull, api.OK, api.OK},
		{cells(2, 0, -edge, "#"), cells(2, 0, edge, "#"), api.ErrFull, api.OK, api.OK},
		{cells(2, -edge, -edge, "#"), cells(2, 0, 0), api.OK, api.OK, api.OK},
		{cells(2, 0, 0), cells(2, edge, edge, "#"), api.OK, api.OK, api.OK},
		{full(2, 0, 0, 200, 200), full(2, 0, 0, 200, 200), api.OK, api.OK, api.OK},
		{full(2, 0, 0, 200, 200), full(2, 2, 0, 200, 200), api.ErrFull, api.OK, api.OK},
		{full(2, 0, 2, 200, 200), full(2, 0, 0, 200, 200), api.ErrFull, api.OK, api.OK},
		{cells(2, edge, 0, "##"), cells(2, edge, 0, ".#", "#."), api.OK, api.ErrArg, api.OK},
		{cells(2, 0, edge, "#", "#"), cells(2, 0, edge, "#.", ".#"), api.OK, api.OK, api.ErrArg},
	} {
		for _, f := range []struct {
			name string
			run  func(a, b api.Cells) (api.Cells, api.Errno)
			want api.Errno
		}{{"Union", region.Union, c.union}, {"Both", region.Both, c.both}, {"Minus", region.Minus, c.minus}} {
			got, e := f.run(c.a, c.b)
			if e != f.want || e != api.OK && !isZero(got) {
				t.Errorf("%s %.100v %.100v: %.100v %v", f.name, c.a, c.b, got, e)
			}
		}
	}
}

// square9 is 9 by 9 cells without the one in the middle.
func square9() api.Cells {
	c := full(2, 0, 0, 9, 9)
	c.Rows[4] = "####.####"
	return c
}

// P3.4: cells with a covered one near, and cells with all near ones covered.
func TestGrownShrunk(t *testing.T) {
	for _, c := range []struct {
		c             api.Cells
		n             int
		grown, shrunk api.Cells
	}{
		{cells(2, 0, 0), 0, cells(2, 0, 0), cells(2, 0, 0)},
		{cells(2, 0, 0), 20, cells(2, 0, 0), cells(2, 0, 0)},
		{cells(2, 4, 0, "#"), 0, cells(2, 4, 0, "#"), cells(2, 4, 0, "#")},
		{cells(2, 4, 0, "#"), 1, full(2, 2, -2, 3, 3), cells(2, 0, 0)},
		{cells(2, 4, 0, "#"), 20, full(2, -36, -40, 41, 41), cells(2, 0, 0)},
		{square9(), 0, square9(), square9()},
		{square9(), 1, full(2, -2, -2, 11, 11), cells(2, 2, 2, "#######", "#######", "##...##", "##...##", "##...##", "#######", "#######")},
		{square9(), 2, full(2, -4, -4, 13, 13), cells(2, 0, 0)},
		{full(2, 0, 0, 200, 200), 20, api.Cells{}, full(2, 40, 40, 160, 160)},
		{full(2, edge, edge, 9, 9), 0, full(2, edge, edge, 9, 9), full(2, edge, edge, 9, 9)},
	} {
		want := api.OK
		if c.grown.Step == 0 {
			want = api.ErrFull
		}
		if got, e := region.Grown(c.c, c.n); e != want || !sameCells(got, c.grown) {
			t.Errorf("%.200v: %.200v %v", c, got, e)
		}
		if got, e := region.Shrunk(c.c, c.n); e != api.OK || !sameCells(got, c.shrunk) {
			t.Errorf("%.200v: %.200v %v", c, got, e)
		}
	}
}

func TestGrownShrunkRandom(t *testing.T) {
	r := rand.New(rand.NewSource(12))
	some := 0
	for range 2000 {
		s, n := randomSet(r, r.Intn(9)-6, r.Intn(9)-6), r.Intn(4)
		grown, shrunk := make(set), make(set)
		for column := -10; column < 16; column++ {
			for row := -10; row < 16; row++ {
				all, one := true, false
				for k := -n; k <= n; k++ {
					for i := -n; i <= n; i++ {
						is := s[[2]int{column + k, row + i}]
						all, one = all && is, one || is
					}
				}
				if all {
					shrunk[[2]int{column, row}] = true
				}
				if one {
					grown[[2]int{column, row}] = true
				}
			}
		}
		if n > 0 && len(shrunk) > 0 {
			some++
		}
		c := s.cells(8)
		if got, e := region.Grown(c, n); e != api.OK || !sameCells(got, grown.cells(8)) {
			t.Fatal(c, n, got, e)
		}
		if got, e := region.Shrunk(c, n); e != api.OK || !sameCells(got, shrunk.cells(8)) {
			t.Fatal(c, n, got, e)
		}
	}
	if some < 100 {
		t.Error(some)
	}
}

// P3.4: what follows.
func TestGrownAgain(t *testing.T) {
	r := rand.New(rand.NewSource(13))
	for range 1000 {
		s, n := randomSet(r, 0, 0), r.Intn(4)
		c := s.cells(2)
		grown, _ := region.Grown(c, n)
		more, e := region.Shrunk(grown, n)
		if left, e2 := region.Minus(c, more); e != api.OK || e2 != api.OK || len(left.Rows) > 0 {
			t.Fatal(c, n, more, left)
		}
		shrunk, _ := region.Shrunk(c, n)
		fewer, e := region.Grown(shrunk, n)
		if left, e2 := region.Minus(fewer, c); e != api.OK || e2 != api.OK || len(left.Rows) > 0 {
			t.Fatal(c, n, fewer, left)
		}
	}
}

// P3.4: n at its bounds, results that are too large, results that are too far away.
func TestGrownShrunkErrors(t *testing.T) {
	for _, c := range []struct {
		c             api.Cells
		n             int
		grown, shrunk api.Errno
	}{
		{cells(2, 0, 0), -1, api.ErrArg, api.ErrArg},
		{cells(2, 0, 0), api.MaxGrow, api.OK, api.OK},
		{cells(2, 0, 0), api.MaxGrow + 1, api.ErrArg, api.ErrArg},
		{cells(2, 0, 0, "#"), least, api.ErrArg, api.ErrArg},
		{cells(2, 0, 0, "#"), greatest, api.ErrArg, api.ErrArg},
		{full(2, 0, 0, 198, 1), 1, api.OK, api.OK},
		{full(2, 0, 0, 199, 1), 1, api.ErrFull, api.OK},
		{full(2, 0, 0, 1, 198), 1, api.OK, api.OK},
		{full(2, 0, 0, 1, 199), 1, api.ErrFull, api.OK},
		{full(2, 0, 0, 200, 200), 0, api.OK, api.OK},
		{full(2, 0, 0, 160, 160), 20, api.OK, api.OK},
		{full(2, 0, 0, 161, 160), 20, api.ErrFull, api.OK},
		{full(2, -edge, 0, 199, 1), 1, api.ErrFull, api.OK},
		{full(2, -edge, 0, 3, 3), 1, api.ErrArg, api.OK},
		{full(2, 0, -edge, 3, 3), 1, api.ErrArg, api.OK},
		{full(2, edge, 0, 3, 3), 1, api.OK, api.ErrArg},
		{full(2, 0, edge, 3, 3), 1, api.OK, api.ErrArg},
		{full(2, edge, edge, 2, 2), 1, api.OK, api.OK},
		{full(2, edge-2, 0, 3, 3), 1, api.OK, api.OK},
		{full(2, -edge+2, -edge+2, 3, 3), 1, api.OK, api.OK},
	} {
		if got, e := region.Grown(c.c, c.n); e != c.grown || e != api.OK && !isZero(got) {
			t.Errorf("%.200v: %.200v %v", c, got, e)
		}
		if got, e := region.Shrunk(c.c, c.n); e != c.shrunk || e != api.OK && !isZero(got) {
			t.Errorf("%.200v: %.200v %v", c, got, e)
		}
	}
}

// P3.4: the groups of connected cells, in their order.
func TestParts(t *testing.T) {
	for _, c := range []struct {
		c    api.Cells
		want []api.Cells
	}{
		{cells(2, 0, 0), nil},
		{cells(2, 6, -8, "#"), []api.Cells{cells(2, 6, -8, "#")}},
		{cells(2, 0, 0, "#.#", "#..", "..#"), []api.Cells{cells(2, 0, 0, "#", "#"), cells(2, 4, 0, "#"), cells(2, 4, 4, "#")}},
		{cells(4, 0, 0, "..#", "#.#", "#.#"), []api.Cells{cells(4, 8, 0, "#", "#", "#"), cells(4, 0, 4, "#", "#")}},
		{cells(2, -4, -4, "####", "#..#", "##.#", "..#.", ".##."), []api.Cells{cells(2, -4, -4, "####", "#..#", "##.#"), cells(2, -2, 2, ".#", "##")}},
		{cells(2, 0, 0, "#####", "#...#", "#.#.#", "#...#", "#####"), []api.Cells{cells(2, 0, 0, "#####", "#...#", "#...#", "#...#", "#####"), cells(2, 4, 4, "#")}},
		{cells(2, 0, 0, "#..#", "##.#", ".###"), []api.Cells{cells(2, 0, 0, "#..#", "##.#", ".###")}},
		{full(2, edge, edge, 200, 200), []api.Cells{full(2, edge, edge, 200, 200)}},
	} {
		if got, e := region.Parts(c.c); e != api.OK || !slices.EqualFunc(got, c.want, sameCells) {
			t.Errorf("%.200v: %.200v %v", c, got, e)
		}
	}
	for _, c := range []api.Cells{cells(2, edge, 0, "#.#"), cells(2, 0, edge, "#", ".", "#")} {
		if got, e := region.Parts(c); e != api.ErrArg || len(got) > 0 {
			t.Error(c, got, e)
		}
	}
	most := full(2, 0, 0, 200, 200)
	for i := range most.Rows {
		row := []byte(most.Rows[i])
		for k := range row {
			if (i+k)%2 == 1 {
				row[k] = '.'
			}
		}
		most.Rows[i] = string(row)
	}
	if got, e := region.Parts(most); e != api.OK || len(got) != 20_000 || !sameCells(got[100], cells(2, 2, 2, "#")) {
		t.Error(len(got), e)
	}
}

// slowParts gives each cell a number, and takes the least one of a neighbour again and again.
func slowParts(s set) []set {
	left, right, low, high := s.box()
	number := make(map[[2]int]int)
	for row := low; row <= high; row++ {
		for column := left; column <= right; column++ {
			if s[[2]int{column, row}] {
				number[[2]int{column, row}] = len(number)
			}
		}
	}
	for changed := true; changed; {
		changed = false
		for p := range s {
			for _, q := range [][2]int{{p[0] + 1, p[1]}, {p[0] - 1, p[1]}, {p[0], p[1] + 1}, {p[0], p[1] - 1}} {
				if s[q] && number[q] < number[p] {
					number[p] = number[q]
					changed = true
				}
			}
		}
	}
	var parts []set
	for n := range len(s) {
		part := make(set)
		for p, k := range number {
			if n == k {
				part[p] = true
			}
		}
		if len(part) > 0 {
			parts = append(parts, part)
		}
	}
	return parts
}

func TestPartsRandom(t *testing.T) {
	r := rand.New(rand.NewSource(14))
	several := 0
	for range 2000 {
		s := randomSet(r, r.Intn(9)-6, r.Intn(9)-6)
		var want []api.Cells
		for _, part := range slowParts(s) {
			want = append(want, part.cells(2))
		}
		if len(want) > 3 {
			several++
		}
		if got, e := region.Parts(s.cells(2)); e != api.OK || !slices.EqualFunc(got, want, sameCells) {
			t.Fatal(s.cells(2), got, want, e)
		}
	}
	if several < 300 {
		t.Error(several)
	}
}

// P3.4: cells without a way out are covered, too.
func TestClosed(t *testing.T) {
	for _, c := range []struct{ c, want api.Cells }{
		{cells(2, 0, 0), cells(2, 0, 0)},
		{cells(2, 4, 4, "#"), cells(2, 4, 4, "#")},
		{cells(2, 4, -4, "###", "#.#", "###"), full(2, 4, -4, 3, 3)},
		{cells(2, 0, 0, "###", "#.#", "##."), cells(2, 0, 0, "###", "#.#", "##.")},
		{cells(2, 0, 0, ".##", "#.#", "###"), cells(2, 0, 0, ".##", "#.#", "###")},
		{cells(2, 0, 0, ".#.", "#.#", ".#."), cells(2, 0, 0, ".#.", "#.#", ".#.")},
		{cells(2, 0, 0, "#####", "#.#.#", "##.##", "#####"), full(2, 0, 0, 5, 4)},
		{cells(2, 0, 0, "#####", "#...#", "#.#.#", "#...#", "#####"), full(2, 0, 0, 5, 5)},
		{cells(2, 0, 0, "######", "#.....", "#.####", "#....#", "######"), cells(2, 0, 0, "######", "#.....", "#.####", "#....#", "######")},
		{full(2, edge, edge, 200, 200), full(2, edge, edge, 200, 200)},
		{cells(2, -edge, edge, "####", "#..#", "####"), full(2, -edge, edge, 4, 3)},
	} {
		if got, e := region.Closed(c.c); e != api.OK || !sameCells(got, c.want) {
			t.Errorf("%.200v: %.200v %v", c, got, e)
		}
	}
}

// slowClosed takes cells away from a full box as long as there is a way out of them.
func slowClosed(s set) set {
	if len(s) == 0 {
		return s
	}
	left, right, low, high := s.box()
	closed := make(set)
	for column := left; column <= right; column++ {
		for row := low; row <= high; row++ {
			closed[[2]int{column, row}] = true
		}
	}
	for changed := true; changed; {
		changed = false
		for p := range closed {
			for k := range 9 {
				if !s[p] && !closed[[2]int{p[0] + k/3 - 1, p[1] + k%3 - 1}] {
					delete(closed, p)
					changed = true
				}
			}
		}
	}
	return closed
}

func TestClosedRandom(t *testing.T) {
	r := rand.New(rand.NewSource(15))
	more := 0
	for range 3000 {
		s := randomSet(r, r.Intn(9)-6, r.Intn(9)-6)
		want := slowClosed(s)
		if len(want) > len(s) {
			more++
		}
		if got, e := region.Closed(s.cells(2)); e != api.OK || !sameCells(got, want.cells(2)) {
			t.Fatal(s.cells(2), got, want.cells(2), e)
		}
	}
	if more < 200 {
		t.Error(more)
	}
}
