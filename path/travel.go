package path

import (
	"beadlayer/api"
	"beadlayer/polygon"
	"beadlayer/region"
)

// way is a straight one between two points, on which the head does not print.
type way struct{ from, to api.Point }

// waysTo are the ways from a point to the first visit of an order, and from each one to the next one.
func waysTo(start api.Point, p []api.Path, o []api.Visit) []way {
	ways := make([]way, 0, len(o))
	at := start
	for _, v := range o {
		begin, end := ends(p[v.Path], v)
		ways = append(ways, way{from: at, to: begin})
		at = end
	}
	return ways
}

// checkStart validates where the head is, and the paths that follow.
func checkStart(start api.Point, p []api.Path) api.Errno {
	if !polygon.InRange(start) {
		return api.ErrArg
	}
	return CheckPaths(p)
}

// checkTour validates where the head is, and the order of paths that follows.
func checkTour(start api.Point, p []api.Path, o []api.Visit) api.Errno {
	if !polygon.InRange(start) {
		return api.ErrArg
	}
	return CheckOrder(p, o)
}

// Travel is how far the head travels without printing.
func Travel(start api.Point, p []api.Path, o []api.Visit) (int, api.Errno) {
	if e := checkTour(start, p, o); e != api.OK {
		return 0, e
	}
	sum := 0
	for _, w := range waysTo(start, p, o) {
		sum += distance(w.from, w.to)
	}
	return sum, api.OK
}

// Meets is how many sides have a point in common with a way.
func Meets(r []api.Ring, a, b api.Point) (int, api.Errno) {
	if e := region.CheckRegion(r); e != api.OK {
		return 0, e
	}
	if !polygon.InRange(a, b) {
		return 0, api.ErrArg
	}
	return polygon.Meeting(r, a, b), api.OK
}

// maxFree is how far the head may travel at most without a retraction.
const maxFree = 1_000_000

// Retractions are the visits to which the head travels far, or over a side.
func Retractions(r []api.Ring, start api.Point, p []api.Path, o []api.Visit, free int) ([]int, api.Errno) {
	if !polygon.InRange(start) {
		return nil, api.ErrArg
	}
	if e := region.CheckRegion(r); e != api.OK {
		return nil, e
	}
	if e := CheckOrder(p, o); e != api.OK {
		return nil, e
	}
	if free < 0 || free > maxFree {
		return nil, api.ErrArg
	}
	var places []int
	for i, w := range waysTo(start, p, o) {
		if distance(w.from, w.to) > free || polygon.Meeting(r, w.from, w.to) > 0 {
			places = append(places, i)
		}
	}
	return places, api.OK
}
