package motion

import (
	"beadlayer/api"
	"beadlayer/path"
)

// Legs are those of a path.
func Legs(p api.Path, limit int) ([]api.Leg, api.Errno) {
	moves, e := movesOf(p, limit)
	if e != api.OK {
		return nil, e
	}
	var legs []api.Leg
	for _, u := range moves {
		legs = append(legs, api.Leg{Long: max(u.X, -u.X, u.Y, -u.Y), Limit: limit})
	}
	return legs, api.OK
}

// Corners are those of a path.
func Corners(p api.Path, limit int) ([]int, api.Errno) {
	moves, e := movesOf(p, limit)
	if e != api.OK {
		return nil, e
	}
	var corners []int
	for i := range len(moves) - 1 {
		corners = append(corners, passable(moves[i], moves[i+1], limit))
	}
	return corners, api.OK
}

// movesOf are the differences of successive points of a path, as far as there are any; with an error if there is none.
func movesOf(p api.Path, limit int) ([]api.Point, api.Errno) {
	points, e := path.Points([]api.Path{p}, api.Visit{})
	if e != api.OK {
		return nil, e
	}
	if !isLimit(limit) {
		return nil, api.ErrArg
	}
	var moves []api.Point
	for i := range len(points) - 1 {
		u := api.Point{X: points[i+1].X - points[i].X, Y: points[i+1].Y - points[i].Y}
		if u != (api.Point{}) {
			moves = append(moves, u)
		}
	}
	if len(moves) == 0 {
		return nil, api.ErrNone
	}
	return moves, api.OK
}

// passable is the speed at which the corner between two moves can be passed: the sharper it is, the slower.
func passable(u, v api.Point, limit int) int {
	cross, dot := u.X*v.Y-u.Y*v.X, u.X*v.X+u.Y*v.Y
	switch {
	case cross == 0 && dot > 0:
		return limit
	case max(cross, -cross) <= dot:
		return limit / 2
	case dot > 0:
		return limit / 4
	}
	return 0
}
