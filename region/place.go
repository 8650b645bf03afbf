package region

import (
	"iter"
	"strings"

	"beadlayer/api"
	"beadlayer/polygon"
)

// place is a cell of the grid, by the numbers of its column and row; or how far one is from another.
type place struct{ column, row int }

func (p place) next(step place) place {
	return place{column: p.column + step.column, row: p.row + step.row}
}

// bySides are the steps to the cells with a common side.
func bySides() []place {
	return []place{{1, 0}, {0, 1}, {-1, 0}, {0, -1}}
}

// bySidesOrCorners are the steps to the cells with a common side or corner.
func bySidesOrCorners() []place {
	return append(bySides(), place{1, 1}, place{-1, 1}, place{-1, -1}, place{1, -1})
}

// spread are the places to which ways lead from a first one, in steps over places that enter accepts: each one once, as enter refuses those that it has accepted before.
func spread(first place, steps []place, enter func(place) bool) []place {
	var reached []place
	visit := func(p place) {
		if enter(p) {
			reached = append(reached, p)
		}
	}
	visit(first)
	for i := 0; i < len(reached); i++ {
		for _, step := range steps {
			visit(reached[i].next(step))
		}
	}
	return reached
}

// box is the places from the column left and the row low on, before the column right and the row high.
type box struct{ left, low, right, high int }

func boxOf(c api.Cells) box {
	if len(c.Rows) == 0 {
		return box{}
	}
	left, low := c.X/c.Step, c.Y/c.Step
	return box{left: left, low: low, right: left + len(c.Rows[0]), high: low + len(c.Rows)}
}

func (b box) has(p place) bool {
	return p.column >= b.left && p.column < b.right && p.row >= b.low && p.row < b.high
}

// places are those of the box, row by row.
func (b box) places() iter.Seq[place] {
	return func(yield func(place) bool) {
		for row := b.low; row < b.high; row++ {
			for column := b.left; column < b.right; column++ {
				if !yield(place{column: column, row: row}) {
					return
				}
			}
		}
	}
}

// wider is a box with n more columns and rows at each edge.
func (b box) wider(n int) box {
	return box{left: b.left - n, low: b.low - n, right: b.right + n, high: b.high + n}
}

// joined is the smallest box around two of them; the zero one is around nothing.
func (b box) joined(o box) box {
	if b == (box{}) {
		return o
	}
	if o == (box{}) {
		return b
	}
	return box{left: min(b.left, o.left), low: min(b.low, o.low), right: max(b.right, o.right), high: max(b.high, o.high)}
}

// coverOf tells of any place whether it is covered by valid cells.
func coverOf(c api.Cells) func(place) bool {
	b := boxOf(c)
	return func(p place) bool {
		return b.has(p) && c.Rows[p.row-b.low][p.column-b.left] == covered[0]
	}
}

// drawn are the cells of a box that are covered; at all edges of a box that is too large for a grid, there have to be such.
func drawn(step int, b box, covers func(place) bool) (api.Cells, api.Errno) {
	if b.right-b.left > api.MaxGrid || b.high-b.low > api.MaxGrid {
		return api.Cells{}, api.ErrFull
	}
	var rows []string
	for row := b.low; row < b.high; row++ {
		var text strings.Builder
		for column := b.left; column < b.right; column++ {
			if covers(place{column: column, row: row}) {
				text.WriteString(covered)
			} else {
				text.WriteString(free)
			}
		}
		rows = append(rows, text.String())
	}
	c := polygon.Trimmed(step, b.left, b.low, rows)
	if e := CheckCells(c); e != api.OK {
		return api.Cells{}, e
	}
	return c, api.OK
}
