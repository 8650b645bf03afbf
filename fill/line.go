package fill

import (
	"slices"

	"beadlayer/api"
	"beadlayer/exact"
	"beadlayer/raster"
	"beadlayer/region"
)

// maxLines is how many lines one call returns at most.
const maxLines = 100_000

// line is a longest run of covered cells in the row (or column) with the number at: from its column (row) first on, to last.
type line struct{ at, first, last int }

// Lines are those of rows or columns.
func Lines(c api.Cells, quarter, every, phase int) ([]api.Path, api.Errno) {
	lines, e := checkedLines(c, quarter, every, phase)
	if e != api.OK {
		return nil, e
	}
	var paths []api.Path
	for _, l := range lines {
		paths = append(paths, api.Path{Points: l.points(c.Step, quarter)})
	}
	return paths, api.OK
}

// Zigzag are lines that are joined where they are near.
func Zigzag(c api.Cells, quarter, every, phase int) ([]api.Path, api.Errno) {
	lines, e := checkedLines(c, quarter, every, phase)
	if e != api.OK {
		return nil, e
	}
	ordered := toAndFro(lines)
	var paths []api.Path
	for i, l := range ordered {
		points := l.points(c.Step, quarter)
		if i > 0 && near(ordered[i-1].last, l.first) {
			joined := &paths[len(paths)-1]
			joined.Points = append(joined.Points, points...)
		} else {
			paths = append(paths, api.Path{Points: points})
		}
	}
	return paths, api.OK
}

// near reports whether two lines that follow each other can be joined, by the column (row) of the end of one and of the beginning of the other. Two of the same row (column) have a free cell between them, and never can.
func near(end, begin int) bool {
	return max(end-begin, begin-end) <= 1
}

// toAndFro are lines with those of each second row (column) turned round.
func toAndFro(lines []line) []line {
	var all []line
	back := false
	for len(lines) > 0 {
		n := 1
		for n < len(lines) && lines[n].at == lines[0].at {
			n++
		}
		row := slices.Clone(lines[:n])
		if back {
			turn(row)
		}
		all = append(all, row...)
		lines, back = lines[n:], !back
	}
	return all
}

func turn(row []line) {
	slices.Reverse(row)
	for i, l := range row {
		row[i] = line{at: l.at, first: l.last, last: l.first}
	}
}

// points are the centers of the ends of a line.
func (l line) points(step, quarter int) []api.Point {
	center := func(along int) api.Point {
		column, row := along, l.at
		if quarter == 1 {
			column, row = row, column
		}
		return centerOf(raster.Place{Column: column, Row: row}, step)
	}
	if l.first == l.last {
		return []api.Point{center(l.first)}
	}
	return []api.Point{center(l.first), center(l.last)}
}

func centerOf(p raster.Place, step int) api.Point {
	return api.Point{X: p.Column*step + step/2, Y: p.Row*step + step/2}
}

func checkedLines(c api.Cells, quarter, every, phase int) ([]line, api.Errno) {
	if e := checkQuarter(c, quarter); e != api.OK {
		return nil, e
	}
	if every < 1 || every > api.MaxGrid || phase < -api.MaxPhase || phase > api.MaxPhase {
		return nil, api.ErrArg
	}
	lines := linesOf(c, quarter, every, phase)
	if len(lines) > maxLines {
		return nil, api.ErrLarge
	}
	return lines, api.OK
}

func checkQuarter(c api.Cells, quarter int) api.Errno {
	if e := region.CheckCells(c); e != api.OK {
		return e
	}
	if quarter != 0 && quarter != 1 {
		return api.ErrKind
	}
	return api.OK
}

// linesOf are the lines of valid cells in rows (columns) whose number, less phase, is a multiple of every.
func linesOf(c api.Cells, quarter, every, phase int) []line {
	b, covers := raster.BoxOf(c), raster.Covers(c)
	if quarter == 1 {
		upright := covers
		b = raster.Box{Left: b.Low, Low: b.Left, Right: b.High, High: b.Right}
		covers = func(p raster.Place) bool { return upright(raster.Place{Column: p.Row, Row: p.Column}) }
	}
	var lines []line
	for at := b.Low; at < b.High; at++ {
		if (at-phase)%every != 0 {
			continue
		}
		for along := b.Left; along < b.Right; along++ {
			if !covers(raster.Place{Column: along, Row: at}) {
				continue
			}
			first := along
			for covers(raster.Place{Column: along + 1, Row: at}) {
				along++
			}
			lines = append(lines, line{at: at, first: first, last: along})
		}
	}
	return lines
}

// Quarter is in which direction the longest line is shorter, and how many cells it has.
func Quarter(c api.Cells) (int, int, api.Errno) {
	if e := region.CheckCells(c); e != api.OK {
		return 0, 0, e
	}
	if len(c.Rows) == 0 {
		return 0, 0, api.ErrNone
	}
	rows, columns := longest(linesOf(c, 0, 1, 0)), longest(linesOf(c, 1, 1, 0))
	if columns < rows {
		return 1, columns, api.OK
	}
	return 0, rows, api.OK
}

// longest is how many cells the longest line has.
func longest(lines []line) int {
	most := 0
	for _, l := range lines {
		most = max(most, l.last-l.first+1)
	}
	return most
}

// Least is the greatest distance of lines with which each part has one.
func Least(c api.Cells, quarter, most int) (int, api.Errno) {
	if e := checkQuarter(c, quarter); e != api.OK {
		return 0, e
	}
	if most < 1 || most > api.MaxGrid {
		return 0, api.ErrArg
	}
	parts, e := region.Parts(c)
	if e != api.OK {
		return 0, e
	}
	for every := most; every > 1; every-- {
		missed := func(part api.Cells) bool { return !meetsLine(part, quarter, every) }
		if !slices.ContainsFunc(parts, missed) {
			return every, api.OK
		}
	}
	return 1, api.OK
}

// meetsLine reports whether a part has cells in a row (column) that is a multiple of every: it has some in each one from its first to its last.
func meetsLine(part api.Cells, quarter, every int) bool {
	b := raster.BoxOf(part)
	first, last := b.Low, b.High-1
	if quarter == 1 {
		first, last = b.Left, b.Right-1
	}
	return exact.Floor(last, every)*every >= first
}
