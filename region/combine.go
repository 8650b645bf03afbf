package region

import (
	"beadlayer/api"
)

// Union are the cells of one or the other.
func Union(a, b api.Cells) (api.Cells, api.Errno) {
	if e := checkBoth(a, b); e != api.OK {
		return api.Cells{}, e
	}
	inA, inB := coverOf(a), coverOf(b)
	return drawn(a.Step, boxOf(a).joined(boxOf(b)), func(p place) bool { return inA(p) || inB(p) })
}

// Both are the cells of both.
func Both(a, b api.Cells) (api.Cells, api.Errno) {
	if e := checkBoth(a, b); e != api.OK {
		return api.Cells{}, e
	}
	inA, inB := coverOf(a), coverOf(b)
	return drawn(a.Step, boxOf(a), func(p place) bool { return inA(p) && inB(p) })
}

// Minus are the cells of the first one that are not of the second one.
func Minus(a, b api.Cells) (api.Cells, api.Errno) {
	if e := checkBoth(a, b); e != api.OK {
		return api.Cells{}, e
	}
	inA, inB := coverOf(a), coverOf(b)
	return drawn(a.Step, boxOf(a), func(p place) bool { return inA(p) && !inB(p) })
}

// checkBoth validates two cells that are combined.
func checkBoth(a, b api.Cells) api.Errno {
	for _, c := range []api.Cells{a, b} {
		if e := CheckCells(c); e != api.OK {
			return e
		}
	}
	if a.Step != b.Step {
		return api.ErrForm
	}
	return api.OK
}

// Grown are the cells that have a covered one near.
func Grown(c api.Cells, n int) (api.Cells, api.Errno) {
	if e := checkGrow(c, n); e != api.OK {
		return api.Cells{}, e
	}
	near := nearOf(c, n)
	return drawn(c.Step, boxOf(c).wider(n), func(p place) bool { return near(p) > 0 })
}

// Shrunk are the cells for which all near ones are covered.
func Shrunk(c api.Cells, n int) (api.Cells, api.Errno) {
	if e := checkGrow(c, n); e != api.OK {
		return api.Cells{}, e
	}
	near, all := nearOf(c, n), (2*n+1)*(2*n+1)
	return drawn(c.Step, boxOf(c), func(p place) bool { return near(p) == all })
}

func checkGrow(c api.Cells, n int) api.Errno {
	if e := CheckCells(c); e != api.OK {
		return e
	}
	if n < 0 || n > api.MaxGrow {
		return api.ErrArg
	}
	return api.OK
}

// nearOf tells of any place how many covered cells are at most n columns and n rows away. It counts once for each place how many are covered on the left of it and below.
func nearOf(c api.Cells, n int) func(place) int {
	b, covers := boxOf(c), coverOf(c)
	wide := b.right - b.left + 1
	counts := make([]int, wide*(b.high-b.low+1))
	// A place outside has as many before it as the nearest one of the box, or of the edge after it.
	before := func(column, row int) int {
		column, row = min(max(column, b.left), b.right), min(max(row, b.low), b.high)
		return counts[(row-b.low)*wide+column-b.left]
	}
	for p := range b.places() {
		count := before(p.column, p.row+1) + before(p.column+1, p.row) - before(p.column, p.row)
		if covers(p) {
			count++
		}
		counts[(p.row+1-b.low)*wide+p.column+1-b.left] = count
	}
	return func(p place) int {
		left, low, right, high := p.column-n, p.row-n, p.column+n+1, p.row+n+1
		return before(right, high) - before(left, high) - before(right, low) + before(left, low)
	}
}
