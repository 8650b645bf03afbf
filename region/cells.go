package region

import (
	"slices"
	"strings"

	"beadlayer/api"
	"beadlayer/exact"
	"beadlayer/polygon"
)

// The bytes of cells.
const (
	covered = "#"
	free    = "."
)

// maxCorner is how far away X and Y of cells are at most.
const maxCorner = 2_000_000

// CheckCells validates cells.
func CheckCells(c api.Cells) api.Errno {
	if !polygon.IsStep(c.Step) {
		return api.ErrArg
	}
	if len(c.Rows) == 0 && (c.X != 0 || c.Y != 0) {
		return api.ErrForm
	}
	if e := checkRows(c.Rows); e != api.OK {
		return e
	}
	if max(c.X, c.Y) > maxCorner || min(c.X, c.Y) < -maxCorner {
		return api.ErrArg
	}
	if c.X%c.Step != 0 || c.Y%c.Step != 0 || !reachEdges(c.Rows) {
		return api.ErrForm
	}
	return api.OK
}

func checkRows(rows []string) api.Errno {
	if len(rows) > api.MaxGrid {
		return api.ErrLarge
	}
	for _, row := range rows {
		if len(row) != len(rows[0]) {
			return api.ErrForm
		}
		if strings.Trim(row, covered+free) != "" {
			return api.ErrSyntax
		}
	}
	if len(rows) > 0 && len(rows[0]) > api.MaxGrid {
		return api.ErrLarge
	}
	return api.OK
}

// reachEdges reports whether there are covered cells at all edges of rows, if there are rows.
func reachEdges(rows []string) bool {
	if len(rows) == 0 {
		return true
	}
	left := func(row string) bool { return strings.HasPrefix(row, covered) }
	right := func(row string) bool { return strings.HasSuffix(row, covered) }
	low, high := rows[0], rows[len(rows)-1]
	return strings.Contains(low, covered) && strings.Contains(high, covered) && slices.ContainsFunc(rows, left) && slices.ContainsFunc(rows, right)
}

// Filled are the cells of a region.
func Filled(r []api.Ring, step int) (api.Cells, api.Errno) {
	return polygon.Filled(r, step)
}

// Count is how many cells are covered, and how many sides are between a covered one and one that is not.
func Count(c api.Cells) (int, int, api.Errno) {
	if e := CheckCells(c); e != api.OK {
		return 0, 0, e
	}
	covers, steps := coverOf(c), bySides()
	cells, sides := 0, 0
	for p := range boxOf(c).places() {
		if !covers(p) {
			continue
		}
		cells++
		for _, step := range steps {
			if !covers(p.next(step)) {
				sides++
			}
		}
	}
	return cells, sides, api.OK
}

// Has says whether the cell that has a point is covered.
func Has(c api.Cells, p api.Point) (bool, api.Errno) {
	if e := CheckCells(c); e != api.OK {
		return false, e
	}
	if !polygon.InRange(p) {
		return false, api.ErrArg
	}
	covers := coverOf(c)
	return covers(place{column: exact.Floor(p.X, c.Step), row: exact.Floor(p.Y, c.Step)}), api.OK
}
