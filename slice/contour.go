package slice

import (
	"slices"

	"beadlayer/api"
)

// Contours are the rows of segments that follow one another, and whether they are closed.
func Contours(m api.Mesh, z int) ([][]api.Side, []bool, api.Errno) {
	contours, e := contoursAt(m, z)
	if e != api.OK {
		return nil, nil, e
	}
	var rows [][]api.Side
	var closed []bool
	for _, c := range contours {
		rows = append(rows, c.sides)
		closed = append(closed, c.closed)
	}
	return rows, closed, api.OK
}

// Ends are the first and the last sides of open contours.
func Ends(m api.Mesh, z int) ([]api.Side, api.Errno) {
	contours, e := contoursAt(m, z)
	if e != api.OK {
		return nil, e
	}
	var ends []api.Side
	for _, c := range contours {
		if !c.closed {
			ends = append(ends, c.sides[0], c.sides[len(c.sides)-1])
		}
	}
	return eachOnce(ends), api.OK
}

// Alike says whether two heights have the same contours.
func Alike(m api.Mesh, low, high int) (bool, api.Errno) {
	a, e := contoursAt(m, low)
	if e != api.OK {
		return false, e
	}
	b, e := contoursAt(m, high)
	if e != api.OK {
		return false, e
	}
	return slices.EqualFunc(a, b, func(x, y contour) bool {
		return x.closed == y.closed && slices.Equal(x.sides, y.sides)
	}), api.OK
}

// contour is sides that segments join, the last one with the first one if it is closed.
type contour struct {
	sides  []api.Side
	closed bool
}

func contoursAt(m api.Mesh, z int) ([]contour, api.Errno) {
	segments, e := Segments(m, z)
	if e != api.OK {
		return nil, e
	}
	next := make(map[api.Side]api.Side)
	for _, s := range segments {
		next[s.From] = s.To
	}
	var contours []contour
	for _, first := range firstSides(segments) {
		if _, left := next[first]; left {
			contours = append(contours, taken(next, first))
		}
	}
	slices.SortFunc(contours, func(a, b contour) int { return compareSides(a.sides[0], b.sides[0]) })
	return contours, api.OK
}

// firstSides are the sides in the order in which contours are begun with them: those that follow none, then all. When the open contours are taken, the least side that is left begins a closed one.
func firstSides(segments []api.Segment) []api.Side {
	follows := make(map[api.Side]bool)
	for _, s := range segments {
		follows[s.To] = true
	}
	var ends, all []api.Side
	for _, s := range segments {
		all = append(all, s.From)
		if !follows[s.From] {
			ends = append(ends, s.From)
		}
	}
	return append(ends, eachOnce(all)...)
}

// taken is the contour that begins with a side; its sides are taken out of next. No face has a side that another one has in the same direction, so that no side is followed by two, or follows two.
func taken(next map[api.Side]api.Side, first api.Side) contour {
	c := contour{sides: []api.Side{first}}
	last := first
	for {
		to, more := next[last]
		if !more {
			return c
		}
		delete(next, last)
		if to == first {
			c.closed = true
			return c
		}
		c.sides = append(c.sides, to)
		last = to
	}
}
