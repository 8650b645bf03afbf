package fill_test

import (
	"math/rand"
	"slices"
	"strings"
	"testing"

	"beadlayer/api"
	"beadlayer/fill"
)

// P4.1: the longest runs of rows and columns; and those lines, joined where they are near.
func TestLines(t *testing.T) {
	stairs := cells(10, -20, -20, "##..", ".##.", "..##", "...#")
	for _, c := range []struct {
		name                  string
		c                     api.Cells
		quarter, every, phase int
		lines, joined         []api.Path
	}{
		{"the document's example", frame(), 0, 1, 0,
			paths(open(5, 5, 25, 5), open(5, 15), open(25, 15), open(5, 25, 25, 25)),
			paths(open(5, 5, 25, 5, 25, 15), open(5, 15, 5, 25, 25, 25))},
		{"columns", cells(10, 0, 0, "###", "#.#", "#.."), 1, 1, 0,
			paths(open(5, 5, 5, 25), open(15, 5), open(25, 5, 25, 15)),
			paths(open(5, 5, 5, 25), open(15, 5, 25, 5, 25, 15))},
		{"columns with several lines", cells(10, 0, 0, "###", "#.#", "###"), 1, 1, 0,
			paths(open(5, 5, 5, 25), open(15, 5), open(15, 25), open(25, 5, 25, 25)),
			paths(open(5, 5, 5, 25, 15, 25), open(15, 5, 25, 5, 25, 25))},
		{"no cells", cells(10, 0, 0), 0, 1, 0, nil, nil},
		{"one cell", cells(2, 4, -8, "#"), 0, 1, 0, paths(open(5, -7)), paths(open(5, -7))},
		{"rows below 0, not those of a phase", stairs, 0, 2, 1,
			paths(open(-5, -5, 5, -5), open(15, 15)),
			paths(open(-5, -5, 5, -5, 15, 15))},
		{"neighbouring columns", stairs, 0, 1, 0,
			paths(open(-15, -15, -5, -15), open(-5, -5, 5, -5), open(5, 5, 15, 5), open(15, 15)),
			paths(open(-15, -15, -5, -15, 5, -5, -5, -5, 5, 5, 15, 5, 15, 15))},
		{"not neighbouring ones", cells(10, 0, 0, "#..", "..#", "#.."), 0, 1, 0, paths(open(5, 5), open(25, 15), open(5, 25)), paths(open(5, 5), open(25, 15), open(5, 25))},
		{"rows without lines between", cells(10, 0, 0, "#", ".", "#", "#"), 0, 1, 0, paths(open(5, 5), open(5, 25), open(5, 35)), paths(open(5, 5, 5, 25, 5, 35))},
		{"far rows", full(10, 0, 0, 3, 8), 0, 3, -1,
			paths(open(5, 25, 25, 25), open(5, 55, 25, 55)),
			paths(open(5, 25, 25, 25, 25, 55, 5, 55))},
		{"the second row with lines is the third row of the grid", cells(10, 0, 0, "##", "..", "##", "##"), 0, 1, 0,
			paths(open(5, 5, 15, 5), open(5, 25, 15, 25), open(5, 35, 15, 35)),
			paths(open(5, 5, 15, 5, 15, 25, 5, 25, 5, 35, 15, 35))},
		{"several lines in each row", cells(10, 0, 0, "##.##", "##.##"), 0, 1, 0,
			paths(open(5, 5, 15, 5), open(35, 5, 45, 5), open(5, 15, 15, 15), open(35, 15, 45, 15)),
			paths(open(5, 5, 15, 5), open(35, 5, 45, 5, 45, 15, 35, 15), open(15, 15, 5, 15))},
		{"phases that are the same", full(2, 0, 0, 1, 3), 0, 200, api.MaxPhase, paths(open(1, 1)), paths(open(1, 1))},
		{"a phase without rows", full(2, 0, 0, 1, 3), 0, 200, -api.MaxPhase + 3, nil, nil},
		{"a phase below 0", full(2, 0, 0, 1, 3), 0, 200, -api.MaxPhase + 2, paths(open(1, 5)), paths(open(1, 5))},
		{"the last cells", full(10_000, edge, edge, 200, 1), 0, 1, 0, paths(open(edge+5000, edge+5000, edge+1_995_000, edge+5000)), paths(open(edge+5000, edge+5000, edge+1_995_000, edge+5000))},
	} {
		if got, e := fill.Lines(c.c, c.quarter, c.every, c.phase); e != api.OK || !samePaths(got, c.lines) {
			t.Error(c.name, got, e)
		}
		if got, e := fill.Zigzag(c.c, c.quarter, c.every, c.phase); e != api.OK || !samePaths(got, c.joined) {
			t.Error(c.name, got, e)
		}
	}
}

// slowLines makes the line of each covered cell that has none before it.
func slowLines(s set, quarter, every, phase int) [][]api.Path {
	var rows [][]api.Path
	for at := -20; at < 20; at++ {
		var row []api.Path
		has := func(along int) bool {
			if quarter == 1 {
				return s[[2]int{at, along}]
			}
			return s[[2]int{along, at}]
		}
		for along := -20; along < 20; along++ {
			if ((at-phase)%every+every)%every != 0 || !has(along) || has(along-1) {
				continue
			}
			end := along
			for has(end + 1) {
				end++
			}
			p := open(along*4+2, at*4+2, end*4+2, at*4+2)
			if quarter == 1 {
				p = open(at*4+2, along*4+2, at*4+2, end*4+2)
			}
			row = append(row, api.Path{Points: slices.Compact(p.Points)})
		}
		if len(row) > 0 {
			rows = append(rows, row)
		}
	}
	return rows
}

// slowZigzag cuts the list of all lines wherever they are not joined.
func slowZigzag(rows [][]api.Path, quarter int) []api.Path {
	var all, joined []api.Path
	for i := range rows {
		row := slices.Clone(rows[i])
		if i%2 == 1 {
			slices.Reverse(row)
			for k := range row {
				row[k].Points = slices.Clone(row[k].Points)
				slices.Reverse(row[k].Points)
			}
		}
		all = append(all, row...)
	}
	for i, p := range all {
		apart := greatest
		if i > 0 {
			last, first := all[i-1].Points[len(all[i-1].Points)-1], p.Points[0]
			apart = last.X - first.X
			if quarter == 1 {
				apart = last.Y - first.Y
			}
		}
		if apart >= -4 && apart <= 4 {
			joined[len(joined)-1].Points = slices.Concat(joined[len(joined)-1].Points, p.Points)
		} else {
			joined = append(joined, p)
		}
	}
	return joined
}

func TestLinesRandom(t *testing.T) {
	r := rand.New(rand.NewSource(1))
	shorter := 0
	for range 5000 {
		c, quarter, every, phase := randomCells(r, 4), r.Intn(2), 1+r.Intn(3), r.Intn(13)-6
		rows := slowLines(setOf(c), quarter, every, phase)
		lines, e := fill.Lines(c, quarter, every, phase)
		if e != api.OK || !samePaths(lines, slices.Concat(rows...)) {
			t.Fatal(c, quarter, every, phase, lines, e)
		}
		want := slowZigzag(rows, quarter)
		if len(want) < len(lines) {
			shorter++
		}
		if got, e := fill.Zigzag(c, quarter, every, phase); e != api.OK || !samePaths(got, want) {
			t.Fatal(c, quarter, every, phase, got, want, e)
		}
	}
	if shorter < 2000 {
		t.Error(shorter)
	}
}

// P4.1: each error, at its bounds, and the first one of several.
func TestLinesErrors(t *testing.T) {
	one := full(2, 0, 0, 1, 1)
	for _, c := range []struct {
		c                     api.Cells
		quarter, every, phase int
		e                     api.Errno
	}{
		{one, 1, api.MaxGrid, api.MaxPhase, api.OK},
		{one, 0, 1, -api.MaxPhase, api.OK},
		{cells(3, 0, 0, "#"), 2, 0, 0, api.ErrArg},
		{cells(2, 0, 0, "#."), 2, 0, 0, api.ErrForm},
		{cells(2, 0, 0, "#x"), 2, 0, 0, api.ErrSyntax},
		{cells(2, edge+2, 0, "#"), 2, 0, 0, api.ErrArg},
		{one, 2, 0, 0, api.ErrKind},
		{one, -1, 1, 0, api.ErrKind},
		{one, least, 1, greatest, api.ErrKind},
		{one, greatest, 1, 0, api.ErrKind},
		{one, 0, 0, 0, api.ErrArg},
		{one, 0, -1, 0, api.ErrArg},
		{one, 0, api.MaxGrid + 1, 0, api.ErrArg},
		{one, 0, least, 0, api.ErrArg},
		{one, 0, greatest, 0, api.ErrArg},
		{one, 0, 1, api.MaxPhase + 1, api.ErrArg},
		{one, 0, 1, -api.MaxPhase - 1, api.ErrArg},
		{one, 0, 1, least, api.ErrArg},
		{one, 1, 1, greatest, api.ErrArg},
		{cells(2, 0, 0), 2, 1, 0, api.ErrKind},
		{cells(2, 0, 0), 0, 0, 0, api.ErrArg},
	} {
		lines, e := fill.Lines(c.c, c.quarter, c.every, c.phase)
		if e != c.e || e != api.OK && len(lines) > 0 {
			t.Error(c, lines, e)
		}
		joined, e := fill.Zigzag(c.c, c.quarter, c.every, c.phase)
		if e != c.e || e != api.OK && len(joined) > 0 {
			t.Error(c, joined, e)
		}
	}
}

// P4.1: the most lines that there can be are fewer than 100,000.
func TestMostLines(t *testing.T) {
	for quarter := range 2 {
		lines, e := fill.Lines(chess(2), quarter, 1, 0)
		if e != api.OK || len(lines) != 20_000 {
			t.Error(len(lines), e)
		}
		// Each row but the first one begins beside the end of the row before.
		joined, e := fill.Zigzag(chess(2), quarter, 1, 0)
		if e != api.OK || len(joined) != 20_000-199 {
			t.Error(len(joined), e)
		}
	}
}

// P4.1, P4.2: lines with every 1 cover all.
func TestLinesCoverAll(t *testing.T) {
	r := rand.New(rand.NewSource(2))
	for range 1000 {
		c, quarter := randomCells(r, 4), r.Intn(2)
		for _, f := range []func(api.Cells, int, int, int) ([]api.Path, api.Errno){fill.Lines, fill.Zigzag} {
			lines, e := f(c, quarter, 1, r.Intn(9)-4)
			if e != api.OK {
				t.Fatal(c, e)
			}
			if got, e := fill.Covered(c, lines); e != api.OK || !sameCells(got, c) {
				t.Fatal(c, lines, got, e)
			}
			if got, e := fill.Left(c, lines); e != api.OK || !sameCells(got, cells(4, 0, 0)) {
				t.Fatal(c, lines, got, e)
			}
		}
	}
}

// P4.4: the direction with the shorter longest line, and how long it is.
func TestQuarter(t *testing.T) {
	for _, c := range []struct {
		c             api.Cells
		quarter, long int
	}{
		{cells(2, 4, -4, "#"), 0, 1},
		{cells(2, 0, 0, "##"), 1, 1},
		{cells(2, 0, 0, "#", "#"), 0, 1},
		{cells(2, 0, 0, "##", "##"), 0, 2},
		{cells(2, 0, 0, "###", "###"), 1, 2},
		{cells(2, 0, 0, "##", "##", "##"), 0, 2},
		{cells(2, 0, 0, "#.#.#", "#.#.#"), 0, 1},
		{cells(2, 0, 0, "##.##", "#...#", "#...#"), 0, 2},
		{cells(2, 0, 0, "###.##", "#....#"), 1, 2},
		{cells(2, 0, 0, "#.#", ".#.", "#.#"), 0, 1},
		{full(2, edge, edge, 200, 199), 1, 199},
		{full(2, -edge, -edge, 199, 200), 0, 199},
		{chess(2), 0, 1},
	} {
		if quarter, long, e := fill.Quarter(c.c); quarter != c.quarter || long != c.long || e != api.OK {
			t.Errorf("%.200v: %v %v %v", c, quarter, long, e)
		}
	}
	for _, c := range []struct {
		c api.Cells
		e api.Errno
	}{{cells(2, 0, 0), api.ErrNone}, {cells(3, 0, 0), api.ErrArg}, {cells(2, 0, 0, "."), api.ErrForm}, {cells(2, 0, 0, ""), api.ErrForm}, {cells(2, 0, 0, "x"), api.ErrSyntax}} {
		if quarter, long, e := fill.Quarter(c.c); quarter != 0 || long != 0 || e != c.e {
			t.Error(c, quarter, long, e)
		}
	}
}

func TestQuarterRandom(t *testing.T) {
	r := rand.New(rand.NewSource(3))
	for range 1000 {
		c := randomCells(r, 4)
		var longest [2]int
		for quarter := range 2 {
			lines, _ := fill.Lines(c, quarter, 1, 0)
			for _, l := range lines {
				first, last := l.Points[0], l.Points[len(l.Points)-1]
				longest[quarter] = max(longest[quarter], (last.X-first.X+last.Y-first.Y)/4+1)
			}
		}
		want := 0
		if longest[1] < longest[0] {
			want = 1
		}
		quarter, long, e := fill.Quarter(c)
		if len(c.Rows) > 0 && (e != api.OK || quarter != want || long != longest[want]) {
			t.Fatal(c, quarter, long, e)
		}
	}
}

// P4.2: the greatest distance of lines that leaves out no part.
func TestLeast(t *testing.T) {
	for _, c := range []struct {
		c             api.Cells
		quarter, most int
		want          int
	}{
		{cells(10, 0, 0, "#.#", "#.#", "#.."), 0, 10, 10},
		{cells(10, 0, 0, "#.#", "#.#", "#.."), 1, 10, 2},
		{cells(10, 0, 0), 0, 200, 200},
		{cells(10, 0, 0), 1, 1, 1},
		{cells(10, 70, 0, "#"), 0, 200, 200},
		{cells(10, 70, 0, "#"), 1, 200, 7},
		{cells(10, 70, 0, "#"), 1, 6, 1},
		{cells(10, 0, -70, "#"), 0, 200, 7},
		{cells(10, 0, -120, "#"), 0, 11, 6},
		{cells(10, 0, -80, "#", "#"), 0, 200, 8},
		{cells(10, 0, 70, "#", "#"), 0, 200, 8},
		{cells(10, 0, 70, "##", ".#", ".#"), 0, 200, 9},
		{cells(10, 0, 60, "#..", "..#"), 0, 200, 1},
		{cells(10, 0, 60, "#..", "...", "..#"), 0, 200, 2},
		{cells(10, 0, 60, "#..", "...", "...", "..#"), 0, 200, 3},
		{cells(10, 0, 60, "#..", "...", "...", "..#"), 0, 2, 1},
		{cells(10, 0, -10, "#", "#"), 0, 200, 200},
		{full(2, 2, 2, 198, 198), 0, 200, 198},
		{full(2, 2, 2, 199, 200), 1, 200, 199},
		{full(2, 2, 2, 199, 200), 0, 200, 200},
		{chess(2), 0, 200, 1},
	} {
		if got, e := fill.Least(c.c, c.quarter, c.most); got != c.want || e != api.OK {
			t.Errorf("%.200v: %v %v", c, got, e)
		}
	}
}

func TestLeastRandom(t *testing.T) {
	r := rand.New(rand.NewSource(4))
	above := 0
	for range 1000 {
		c, quarter, most := randomCells(r, 4), r.Intn(2), 1+r.Intn(12)
		parts := setOf(c).parts()
		missed := func(every int) bool {
			lines, _ := fill.Lines(c, quarter, every, 0)
			covered, _ := fill.Covered(c, lines)
			some := setOf(covered)
			return slices.ContainsFunc(parts, func(part set) bool {
				return len(part.kept(func(column, row int) bool { return some[[2]int{column, row}] })) == 0
			})
		}
		want := most
		for missed(want) {
			want--
		}
		if want > 1 && want < most {
			above++
		}
		if got, e := fill.Least(c, quarter, most); got != want || e != api.OK {
			t.Fatal(c, quarter, most, got, want, e)
		}
	}
	if above < 50 {
		t.Error(above)
	}
}

// P4.2: the errors of Least, in their order.
func TestLeastErrors(t *testing.T) {
	for _, c := range []struct {
		c             api.Cells
		quarter, most int
		e             api.Errno
	}{
		{cells(2, 0, 0, "#"), 1, api.MaxGrid, api.OK},
		{cells(1, 0, 0, "#"), 2, 0, api.ErrArg},
		{cells(2, 0, 0, strings.Repeat("#", 201)), 2, 0, api.ErrLarge},
		{cells(2, 0, 0, "#"), 2, 0, api.ErrKind},
		{cells(2, 0, 0), -1, 1, api.ErrKind},
		{cells(2, 0, 0, "#"), least, 1, api.ErrKind},
		{cells(2, 0, 0, "#"), 0, 0, api.ErrArg},
		{cells(2, 0, 0), 1, api.MaxGrid + 1, api.ErrArg},
		{cells(2, 0, 0), 1, least, api.ErrArg},
		{cells(2, 0, 0), 1, greatest, api.ErrArg},
	} {
		if got, e := fill.Least(c.c, c.quarter, c.most); e != c.e || e != api.OK && got != 0 {
			t.Error(c, got, e)
		}
	}
}
