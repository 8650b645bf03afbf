package raster

import (
	"strings"

	"beadlayer/api"
)

// Covers tells of any place whether it is covered by valid cells.
func Covers(c api.Cells) func(Place) bool {
	b := BoxOf(c)
	return func(p Place) bool {
		return b.Has(p) && c.Rows[p.Row-b.Low][p.Column-b.Left] == covered[0]
	}
}

// Drawn are the cells of a box that are covered, or what is wrong with them; at all edges of a box that is too large for a grid, there have to be such.
func Drawn(step int, b Box, covers func(Place) bool) (api.Cells, api.Errno) {
	if b.Right-b.Left > api.MaxGrid || b.High-b.Low > api.MaxGrid {
		return api.Cells{}, api.ErrFull
	}
	var rows []string
	for row := b.Low; row < b.High; row++ {
		var text strings.Builder
		for column := b.Left; column < b.Right; column++ {
			if covers(Place{Column: column, Row: row}) {
				text.WriteString(covered)
			} else {
				text.WriteString(free)
			}
		}
		rows = append(rows, text.String())
	}
	c := trimmed(step, b.Left, b.Low, rows)
	if e := Check(c); e != api.OK {
		return api.Cells{}, e
	}
	return c, api.OK
}

// trimmed are the cells of rows with the same number of bytes, without the rows and columns at the edges in which none is covered; left and low are the numbers of the first column and row.
func trimmed(step, left, low int, rows []string) api.Cells {
	first, last, begin, end := -1, -1, -1, -1
	for i, row := range rows {
		if !strings.Contains(row, covered) {
			continue
		}
		if first < 0 {
			first, begin = i, strings.Index(row, covered)
		}
		last = i
		begin = min(begin, strings.Index(row, covered))
		end = max(end, strings.LastIndex(row, covered))
	}
	if first < 0 {
		return api.Cells{Step: step}
	}
	kept := make([]string, 0, last-first+1)
	for _, row := range rows[first : last+1] {
		kept = append(kept, row[begin:end+1])
	}
	return api.Cells{Step: step, X: (left + begin) * step, Y: (low + first) * step, Rows: kept}
}
