// Package polygon validates and measures rings and regions and finds the cells that they cover, as chapter 3 says it. Chapter 2 needs this already, and no package imports one of a later chapter: so it is below slice and region.
package polygon

import (
	"beadlayer/api"
)

// CheckRing validates a ring.
func CheckRing(r api.Ring) api.Errno {
	if len(r) < 3 {
		return api.ErrForm
	}
	if len(r) > api.MaxRing {
		return api.ErrLarge
	}
	if !InRange(r...) {
		return api.ErrArg
	}
	if hasTwice(r) {
		return api.ErrTwice
	}
	if meetsItself(r) {
		return api.ErrConflict
	}
	return api.OK
}

// CheckRegion validates a region.
func CheckRegion(r []api.Ring) api.Errno {
	corners := 0
	for _, ring := range r {
		corners += len(ring)
	}
	if len(r) > api.MaxRings || corners > api.MaxCorners {
		return api.ErrLarge
	}
	for _, ring := range r {
		if e := CheckRing(ring); e != api.OK {
			return e
		}
	}
	if meetEachOther(r) {
		return api.ErrConflict
	}
	return api.OK
}

// InRange reports whether the coordinates of all points are within their limits.
func InRange(points ...api.Point) bool {
	for _, p := range points {
		if max(p.X, p.Y) > api.MaxCoordinate || min(p.X, p.Y) < -api.MaxCoordinate {
			return false
		}
	}
	return true
}

func hasTwice(points []api.Point) bool {
	met := make(map[api.Point]bool)
	for _, p := range points {
		if met[p] {
			return true
		}
		met[p] = true
	}
	return false
}

// meetsItself reports whether two sides have a point in common that is not the corner between them. No two corners are at one place.
func meetsItself(r api.Ring) bool {
	sides := sidesOf(r)
	last := len(sides) - 1
	for i, s := range sides {
		if turnsBack(s, sides[(i+1)%len(sides)]) {
			return true
		}
		for k := i + 2; k <= last; k++ {
			successive := i == 0 && k == last
			if !successive && s.meets(sides[k]) {
				return true
			}
		}
	}
	return false
}

func meetEachOther(rings []api.Ring) bool {
	var before []side
	for _, r := range rings {
		sides := sidesOf(r)
		for _, s := range sides {
			for _, other := range before {
				if s.meets(other) {
					return true
				}
			}
		}
		before = append(before, sides...)
	}
	return false
}

// Meeting is how many sides of rings have a point in common with the straight way between two points, which can be one point.
func Meeting(r []api.Ring, from, to api.Point) int {
	way := side{from: from, to: to}
	n := 0
	for _, ring := range r {
		for _, s := range sidesOf(ring) {
			if s.meets(way) {
				n++
			}
		}
	}
	return n
}

// side is a line from a corner of a ring to the next one.
type side struct{ from, to api.Point }

func sidesOf(r api.Ring) []side {
	sides := make([]side, 0, len(r))
	for i, p := range r {
		sides = append(sides, side{from: p, to: r[(i+1)%len(r)]})
	}
	return sides
}

// turnsBack reports whether the second one of two successive sides leads back over the first one.
func turnsBack(s, next side) bool {
	along := (s.to.X-s.from.X)*(next.to.X-next.from.X) + (s.to.Y-s.from.Y)*(next.to.Y-next.from.Y)
	return along < 0 && s.turn(next.to) == 0
}

// meets reports whether two sides have a point in common.
func (s side) meets(o side) bool {
	if !overlap(s.from.X, s.to.X, o.from.X, o.to.X) || !overlap(s.from.Y, s.to.Y, o.from.Y, o.to.Y) {
		return false
	}
	// With overlapping boxes, they meet unless one has both its ends strictly on one side of the other's line.
	return s.turn(o.from)*s.turn(o.to) <= 0 && o.turn(s.from)*o.turn(s.to) <= 0
}

// overlap reports whether the numbers from a to b, in any order, and those from c to d have one in common.
func overlap(a, b, c, d int) bool {
	return max(a, b) >= min(c, d) && max(c, d) >= min(a, b)
}

func (s side) turn(p api.Point) int {
	return Turn(s.from, s.to, p)
}
