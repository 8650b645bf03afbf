package region

import (
	"beadlayer/api"
	"beadlayer/raster"
)

// Union are the cells of one or the other.
func Union(a, b api.Cells) (api.Cells, api.Errno) {
	if e := checkBoth(a, b); e != api.OK {
		return api.Cells{}, e
	}
	inA, inB := raster.Covers(a), raster.Covers(b)
	return raster.Drawn(a.Step, raster.BoxOf(a).Joined(raster.BoxOf(b)), func(p raster.Place) bool { return inA(p) || inB(p) })
}

// Both are the cells of both.
func Both(a, b api.Cells) (api.Cells, api.Errno) {
	if e := checkBoth(a, b); e != api.OK {
		return api.Cells{}, e
	}
	inA, inB := raster.Covers(a), raster.Covers(b)
	return raster.Drawn(a.Step, raster.BoxOf(a), func(p raster.Place) bool { return inA(p) && inB(p) })
}

// Minus are the cells of the first one that are not of the second one.
func Minus(a, b api.Cells) (api.Cells, api.Errno) {
	if e := checkBoth(a, b); e != api.OK {
		return api.Cells{}, e
	}
	inA, inB := raster.Covers(a), raster.Covers(b)
	return raster.Drawn(a.Step, raster.BoxOf(a), func(p raster.Place) bool { return inA(p) && !inB(p) })
}

// checkBoth validates two cells that are combined.
func checkBoth(a, b api.Cells) api.Errno {
	for _, c := range []api.Cells{a, b} {
		if e := CheckCells(c); e != api.OK {
			return e
		}
	}
	if a.Step != b.Step {
		return api.ErrForm
	}
	return api.OK
}

// Grown are the cells that have a covered one near.
func Grown(c api.Cells, n int) (api.Cells, api.Errno) {
	if e := checkGrow(c, n); e != api.OK {
		return api.Cells{}, e
	}
	near := nearOf(c, n)
	return raster.Drawn(c.Step, raster.BoxOf(c).Wider(n), func(p raster.Place) bool { return near(p) > 0 })
}

// Shrunk are the cells for which all near ones are covered.
func Shrunk(c api.Cells, n int) (api.Cells, api.Errno) {
	if e := checkGrow(c, n); e != api.OK {
		return api.Cells{}, e
	}
	near, all := nearOf(c, n), (2*n+1)*(2*n+1)
	return raster.Drawn(c.Step, raster.BoxOf(c), func(p raster.Place) bool { return near(p) == all })
}

func checkGrow(c api.Cells, n int) api.Errno {
	if e := CheckCells(c); e != api.OK {
		return e
	}
	if n < 0 || n > api.MaxGrow {
		return api.ErrArg
	}
	return api.OK
}

// nearOf tells of any place how many covered cells are at most n columns and n rows away. It counts once for each place how many are covered on the left of it and below.
func nearOf(c api.Cells, n int) func(raster.Place) int {
	b, covers := raster.BoxOf(c), raster.Covers(c)
	wide := b.Right - b.Left + 1
	counts := make([]int, wide*(b.High-b.Low+1))
	// A place outside has as many before it as the nearest one of the box, or of the edge after it.
	before := func(column, row int) int {
		column, row = min(max(column, b.Left), b.Right), min(max(row, b.Low), b.High)
		return counts[(row-b.Low)*wide+column-b.Left]
	}
	for p := range b.Places() {
		count := before(p.Column, p.Row+1) + before(p.Column+1, p.Row) - before(p.Column, p.Row)
		if covers(p) {
			count++
		}
		counts[(p.Row+1-b.Low)*wide+p.Column+1-b.Left] = count
	}
	return func(p raster.Place) int {
		left, low, right, high := p.Column-n, p.Row-n, p.Column+n+1, p.Row+n+1
		return before(right, high) - before(left, high) - before(right, low) + before(left, low)
	}
}
