package polygon

import (
	"beadlayer/api"
	"beadlayer/exact"
	"beadlayer/raster"
)

// Filled are the cells of a region: those whose center is inside, or on a side.
func Filled(r []api.Ring, step int) (api.Cells, api.Errno) {
	if e := CheckRegion(r); e != api.OK {
		return api.Cells{}, e
	}
	if !raster.IsStep(step) {
		return api.Cells{}, api.ErrArg
	}
	if len(r) == 0 {
		return api.Cells{Step: step}, api.OK
	}
	g := gridAround(r, step)
	if g.columns > api.MaxGrid || g.rows > api.MaxGrid {
		return api.Cells{}, api.ErrFull
	}
	var sides []side
	for _, ring := range r {
		sides = append(sides, sidesOf(ring)...)
	}
	rows := make([][]bool, 0, g.rows)
	for i := range g.rows {
		rows = append(rows, g.row(sides, i))
	}
	box := raster.Box{Left: g.left, Low: g.low, Right: g.left + g.columns, High: g.low + g.rows}
	return raster.Drawn(step, box, func(p raster.Place) bool { return rows[p.Row-g.low][p.Column-g.left] })
}

// grid is the cells with the columns and rows in which corners are; left and low number the first ones of them.
type grid struct{ step, left, low, columns, rows int }

func gridAround(r []api.Ring, step int) grid {
	least := r[0][0]
	most := least
	for _, ring := range r {
		for _, p := range ring {
			least = api.Point{X: min(least.X, p.X), Y: min(least.Y, p.Y)}
			most = api.Point{X: max(most.X, p.X), Y: max(most.Y, p.Y)}
		}
	}
	left, low := exact.Floor(least.X, step), exact.Floor(least.Y, step)
	return grid{
		step:    step,
		left:    left,
		low:     low,
		columns: exact.Floor(most.X, step) - left + 1,
		rows:    exact.Floor(most.Y, step) - low + 1,
	}
}

// row tells which cells of a row are covered. From left to right, each side that is passed leads from outside to inside, or back.
func (g grid) row(sides []side, number int) []bool {
	y := (g.low+number)*g.step + g.step/2
	passed, on := make([]bool, g.columns+1), make([]bool, g.columns)
	for _, s := range sides {
		if s.from.Y > s.to.Y {
			s = side{from: s.to, to: s.from}
		}
		switch {
		case y < s.from.Y || y > s.to.Y:
		case s.from.Y == s.to.Y:
			g.lieOn(s, on)
		default:
			column, exactly := g.centerBefore(s, y)
			if exactly {
				on[column] = true
			}
			// A side without its upper end: a way through a corner passes one side, or none, or both.
			if y < s.to.Y {
				passed[column+1] = !passed[column+1]
			}
		}
	}
	inside := false
	for column := range on {
		inside = inside != passed[column]
		on[column] = on[column] || inside
	}
	return on
}

// lieOn marks the columns whose centers are on a level side.
func (g grid) lieOn(s side, on []bool) {
	for column := range on {
		x := (g.left+column)*g.step + g.step/2
		if x >= min(s.from.X, s.to.X) && x <= max(s.from.X, s.to.X) {
			on[column] = true
		}
	}
}

// centerBefore is the last column whose center is not on the right of where a rising side has the height y, and whether the side goes through this center.
func (g grid) centerBefore(s side, y int) (int, bool) {
	rise := s.to.Y - s.from.Y
	first := g.left*g.step + g.step/2
	num := (s.from.X-first)*rise + (s.to.X-s.from.X)*(y-s.from.Y)
	return exact.Floor(num, g.step*rise), num%(g.step*rise) == 0
}
