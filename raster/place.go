package raster

import (
	"iter"

	"beadlayer/api"
)

// Place is a cell of the grid, by the numbers of its column and row; or how far one is from another.
type Place struct{ Column, Row int }

// Next is the place that is a step away.
func (p Place) Next(step Place) Place {
	return Place{Column: p.Column + step.Column, Row: p.Row + step.Row}
}

// Box is the places from the column Left and the row Low on, before the column Right and the row High.
type Box struct{ Left, Low, Right, High int }

// BoxOf is the smallest box with all that valid cells cover.
func BoxOf(c api.Cells) Box {
	if len(c.Rows) == 0 {
		return Box{}
	}
	left, low := c.X/c.Step, c.Y/c.Step
	return Box{Left: left, Low: low, Right: left + len(c.Rows[0]), High: low + len(c.Rows)}
}

// Has reports whether a place is in the box.
func (b Box) Has(p Place) bool {
	return p.Column >= b.Left && p.Column < b.Right && p.Row >= b.Low && p.Row < b.High
}

// Places are those of the box, row by row.
func (b Box) Places() iter.Seq[Place] {
	return func(yield func(Place) bool) {
		for row := b.Low; row < b.High; row++ {
			for column := b.Left; column < b.Right; column++ {
				if !yield(Place{Column: column, Row: row}) {
					return
				}
			}
		}
	}
}

// Wider is a box with n more columns and rows at each edge.
func (b Box) Wider(n int) Box {
	return Box{Left: b.Left - n, Low: b.Low - n, Right: b.Right + n, High: b.High + n}
}

// Joined is the smallest box around two of them; the zero one is around nothing.
func (b Box) Joined(o Box) Box {
	if b == (Box{}) {
		return o
	}
	if o == (Box{}) {
		return b
	}
	return Box{Left: min(b.Left, o.Left), Low: min(b.Low, o.Low), Right: max(b.Right, o.Right), High: max(b.High, o.High)}
}
