package region

import (
	"beadlayer/api"
)

// Parts are the groups of connected cells.
func Parts(c api.Cells) ([]api.Cells, api.Errno) {
	if e := CheckCells(c); e != api.OK {
		return nil, e
	}
	covers := coverOf(c)
	partOf := make(map[place]int)
	var parts []api.Cells
	for first := range boxOf(c).places() {
		number := len(parts) + 1
		reached := spread(first, bySides(), func(p place) bool {
			if !covers(p) || partOf[p] > 0 {
				return false
			}
			partOf[p] = number
			return true
		})
		if len(reached) == 0 {
			continue
		}
		part, e := drawn(c.Step, boxAround(reached), func(p place) bool { return partOf[p] == number })
		if e != api.OK {
			return nil, e
		}
		parts = append(parts, part)
	}
	return parts, api.OK
}

func boxAround(places []place) box {
	var around box
	for _, p := range places {
		around = around.joined(box{left: p.column, low: p.row, right: p.column + 1, high: p.row + 1})
	}
	return around
}

// Closed are the cells, and those from which no way leads out.
func Closed(c api.Cells) (api.Cells, api.Errno) {
	if e := CheckCells(c); e != api.OK {
		return api.Cells{}, e
	}
	covers, b := coverOf(c), boxOf(c)
	// All ways out lead to one of the cells right around the box, and from there to any other.
	around := b.wider(1)
	outside := make(map[place]bool)
	spread(place{column: around.left, row: around.low}, bySidesOrCorners(), func(p place) bool {
		if !around.has(p) || covers(p) || outside[p] {
			return false
		}
		outside[p] = true
		return true
	})
	return drawn(c.Step, b, func(p place) bool { return !outside[p] })
}
