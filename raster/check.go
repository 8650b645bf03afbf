// Package raster has cells as places of a grid: their check, which places they cover, and how they are drawn from such. Several chapters work with cells in this way: so it is below them.
package raster

import (
	"slices"
	"strings"

	"beadlayer/api"
)

// The bytes of cells.
const (
	covered = "#"
	free    = "."
)

// maxCorner is how far away X and Y of cells are at most.
const maxCorner = 2_000_000

// Check validates cells, as region.CheckCells does.
func Check(c api.Cells) api.Errno {
	if !IsStep(c.Step) {
		return api.ErrArg
	}
	if len(c.Rows) == 0 && (c.X != 0 || c.Y != 0) {
		return api.ErrForm
	}
	if e := checkRows(c.Rows); e != api.OK {
		return e
	}
	if max(c.X, c.Y) > maxCorner || min(c.X, c.Y) < -maxCorner {
		return api.ErrArg
	}
	if c.X%c.Step != 0 || c.Y%c.Step != 0 || !reachEdges(c.Rows) {
		return api.ErrForm
	}
	return api.OK
}

// IsStep reports whether cells can be as wide as this.
func IsStep(step int) bool {
	return step >= 2 && step <= api.MaxStep && step%2 == 0
}

func checkRows(rows []string) api.Errno {
	if len(rows) > api.MaxGrid {
		return api.ErrLarge
	}
	for _, row := range rows {
		if len(row) != len(rows[0]) {
			return api.ErrForm
		}
		if strings.Trim(row, covered+free) != "" {
			return api.ErrSyntax
		}
	}
	if len(rows) > 0 && len(rows[0]) > api.MaxGrid {
		return api.ErrLarge
	}
	return api.OK
}

// reachEdges reports whether there are covered cells at all edges of rows, if there are rows.
func reachEdges(rows []string) bool {
	if len(rows) == 0 {
		return true
	}
	left := func(row string) bool { return strings.HasPrefix(row, covered) }
	right := func(row string) bool { return strings.HasSuffix(row, covered) }
	low, high := rows[0], rows[len(rows)-1]
	return strings.Contains(low, covered) && strings.Contains(high, covered) && slices.ContainsFunc(rows, left) && slices.ContainsFunc(rows, right)
}
