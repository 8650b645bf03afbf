package region

import (
	"beadlayer/api"
	"beadlayer/exact"
	"beadlayer/polygon"
	"beadlayer/raster"
)

// CheckCells validates cells.
func CheckCells(c api.Cells) api.Errno {
	return raster.Check(c)
}

// Filled are the cells of a region.
func Filled(r []api.Ring, step int) (api.Cells, api.Errno) {
	return polygon.Filled(r, step)
}

// Count is how many cells are covered, and how many sides are between a covered one and one that is not.
func Count(c api.Cells) (int, int, api.Errno) {
	if e := CheckCells(c); e != api.OK {
		return 0, 0, e
	}
	covers, steps := raster.Covers(c), bySides()
	cells, sides := 0, 0
	for p := range raster.BoxOf(c).Places() {
		if !covers(p) {
			continue
		}
		cells++
		for _, step := range steps {
			if !covers(p.Next(step)) {
				sides++
			}
		}
	}
	return cells, sides, api.OK
}

// Has says whether the cell that has a point is covered.
func Has(c api.Cells, p api.Point) (bool, api.Errno) {
	if e := CheckCells(c); e != api.OK {
		return false, e
	}
	if !polygon.InRange(p) {
		return false, api.ErrArg
	}
	covers := raster.Covers(c)
	return covers(raster.Place{Column: exact.Floor(p.X, c.Step), Row: exact.Floor(p.Y, c.Step)}), api.OK
}
