package region

import (
	"slices"

	"beadlayer/api"
	"beadlayer/polygon"
)

// Normal is the region with all rings in one form.
func Normal(r []api.Ring) ([]api.Ring, api.Errno) {
	depths, e := Depths(r)
	if e != api.OK {
		return nil, e
	}
	normal := make([]api.Ring, 0, len(r))
	for i, ring := range r {
		normal = append(normal, normalRing(ring, isOuter(depths[i])))
	}
	slices.SortFunc(normal, func(a, b api.Ring) int { return comparePoints(a[0], b[0]) })
	return normal, api.OK
}

// normalRing begins with the least corner, and is counterclockwise or not.
func normalRing(r api.Ring, counterclockwise bool) api.Ring {
	first := slices.Index(r, slices.MinFunc(r, comparePoints))
	normal := slices.Concat(r[first:], r[:first])
	if (polygon.Doubled(r) > 0) != counterclockwise {
		slices.Reverse(normal[1:])
	}
	return normal
}

// Simplified leaves out all corners that lie on a straight line.
func Simplified(r []api.Ring) ([]api.Ring, api.Errno) {
	if e := CheckRegion(r); e != api.OK {
		return nil, e
	}
	simplified := make([]api.Ring, 0, len(r))
	for _, ring := range r {
		simplified = append(simplified, withoutStraight(ring))
	}
	return simplified, api.OK
}

// withoutStraight judges all corners by the neighbours they have at first: if one of these is left out, the next one is in the same direction. As no side of a valid ring leads back over the one before, a corner on the line of its neighbours lies between them.
func withoutStraight(r api.Ring) api.Ring {
	var kept api.Ring
	for i, p := range r {
		before, after := r[(i+len(r)-1)%len(r)], r[(i+1)%len(r)]
		if polygon.Turn(before, after, p) != 0 {
			kept = append(kept, p)
		}
	}
	return kept
}

// Hull is the smallest convex ring around points.
func Hull(p []api.Point) (api.Ring, api.Errno) {
	if len(p) > api.MaxPoints {
		return nil, api.ErrLarge
	}
	if !polygon.InRange(p...) {
		return nil, api.ErrArg
	}
	sorted := slices.SortedFunc(slices.Values(p), comparePoints)
	right := leftTurns(sorted)
	slices.Reverse(sorted)
	left := leftTurns(sorted)
	if len(right)+len(left) < 5 {
		return nil, api.ErrForm
	}
	// Each of them ends where the other one begins.
	return slices.Concat(right[:len(right)-1], left[:len(left)-1]), api.OK
}

// leftTurns is the way from the first point to the last one that turns left at each of its corners, with none of the points on its right.
func leftTurns(p []api.Point) api.Ring {
	var way api.Ring
	for _, next := range p {
		for len(way) > 1 && polygon.Turn(way[len(way)-2], way[len(way)-1], next) <= 0 {
			way = way[:len(way)-1]
		}
		way = append(way, next)
	}
	return way
}
