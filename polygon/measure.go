package polygon

import (
	"beadlayer/api"
)

// Turn is 1 if a point is on the left of the way from a point to another one, -1 if it is on its right, 0 if it is on the line.
func Turn(from, to, p api.Point) int {
	product := (to.X-from.X)*(p.Y-from.Y) - (to.Y-from.Y)*(p.X-from.X)
	switch {
	case product > 0:
		return 1
	case product < 0:
		return -1
	}
	return 0
}

// Doubled is twice the area of a ring; below 0 if it is clockwise.
func Doubled(r api.Ring) int {
	sum := 0
	for i, p := range r {
		q := r[(i+1)%len(r)]
		sum += p.X*q.Y - p.Y*q.X
	}
	return sum
}
