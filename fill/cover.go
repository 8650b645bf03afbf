package fill

import (
	"iter"

	"beadlayer/api"
	"beadlayer/exact"
	"beadlayer/polygon"
	"beadlayer/raster"
	"beadlayer/region"
)

// Covered are the cells through whose centers a path leads.
func Covered(c api.Cells, p []api.Path) (api.Cells, api.Errno) {
	if e := checkBoth(c, p); e != api.OK {
		return api.Cells{}, e
	}
	return chosen(c, printedOf(c, p))
}

// Left are the other cells.
func Left(c api.Cells, p []api.Path) (api.Cells, api.Errno) {
	if e := checkBoth(c, p); e != api.OK {
		return api.Cells{}, e
	}
	printed := printedOf(c, p)
	return chosen(c, func(at raster.Place) bool { return !printed(at) })
}

// Density is the part of cells that are covered.
func Density(c api.Cells, p []api.Path) (api.Fraction, api.Errno) {
	covered, e := Covered(c, p)
	if e != api.OK {
		return api.Fraction{}, e
	}
	if len(c.Rows) == 0 {
		return api.Fraction{}, api.ErrNone
	}
	some, _, e := region.Count(covered)
	if e != api.OK {
		return api.Fraction{}, e
	}
	all, _, e := region.Count(c)
	if e != api.OK {
		return api.Fraction{}, e
	}
	return exact.Lowest(some, all), api.OK
}

// checkBoth validates cells, and the paths that are printed on them.
func checkBoth(c api.Cells, paths []api.Path) api.Errno {
	if e := region.CheckCells(c); e != api.OK {
		return e
	}
	if len(paths) > api.MaxPaths {
		return api.ErrLarge
	}
	for _, p := range paths {
		if len(p.Points) == 0 {
			return api.ErrNone
		}
		if len(p.Points) > api.MaxRing {
			return api.ErrLarge
		}
		if !polygon.InRange(p.Points...) {
			return api.ErrArg
		}
	}
	return api.OK
}

// printedOf tells of any place in the box of cells whether a path leads through its center.
func printedOf(c api.Cells, paths []api.Path) func(raster.Place) bool {
	b := raster.BoxOf(c)
	wide := b.Right - b.Left
	printed := make([]bool, wide*(b.High-b.Low))
	indexOf := func(at raster.Place) int { return (at.Row-b.Low)*wide + at.Column - b.Left }
	for _, p := range paths {
		// The first way of a path that is not closed leads from its first point to itself.
		from := p.Points[0]
		if p.Closed {
			from = p.Points[len(p.Points)-1]
		}
		for _, to := range p.Points {
			for at := range passed(from, to, c.Step, b) {
				printed[indexOf(at)] = true
			}
			from = to
		}
	}
	return func(at raster.Place) bool { return printed[indexOf(at)] }
}

// passed are the places of a box whose centers are on the straight way between two points.
func passed(from, to api.Point, step int, b raster.Box) iter.Seq[raster.Place] {
	return func(yield func(raster.Place) bool) {
		first, last := numbersBetween(from.Y, to.Y, step)
		for row := max(first, b.Low); row <= min(last, b.High-1); row++ {
			left, right := from.X, to.X
			if from.Y != to.Y {
				num, den := (to.X-from.X)*(row*step+step/2-from.Y), to.Y-from.Y
				if num%den != 0 {
					continue
				}
				left = from.X + num/den
				right = left
			}
			begin, end := numbersBetween(left, right, step)
			for column := max(begin, b.Left); column <= min(end, b.Right-1); column++ {
				if !yield(raster.Place{Column: column, Row: row}) {
					return
				}
			}
		}
	}
}

// numbersBetween are the first and the last number of the rows (or columns) whose centers are between two heights, or at one of them; the last one is less than the first one if there are none.
func numbersBetween(a, b, step int) (int, int) {
	return exact.Ceil(min(a, b)-step/2, step), exact.Floor(max(a, b)-step/2, step)
}
