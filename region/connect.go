package region

import (
	"beadlayer/api"
	"beadlayer/raster"
)

// bySides are the steps to the cells with a common side.
func bySides() []raster.Place {
	return []raster.Place{{Column: 1}, {Row: 1}, {Column: -1}, {Row: -1}}
}

// bySidesOrCorners are the steps to the cells with a common side or corner.
func bySidesOrCorners() []raster.Place {
	return append(bySides(), raster.Place{Column: 1, Row: 1}, raster.Place{Column: -1, Row: 1}, raster.Place{Column: -1, Row: -1}, raster.Place{Column: 1, Row: -1})
}

// spread are the places to which ways lead from a first one, in steps over places that enter accepts: each one once, as enter refuses those that it has accepted before.
func spread(first raster.Place, steps []raster.Place, enter func(raster.Place) bool) []raster.Place {
	var reached []raster.Place
	visit := func(p raster.Place) {
		if enter(p) {
			reached = append(reached, p)
		}
	}
	visit(first)
	for i := 0; i < len(reached); i++ {
		for _, step := range steps {
			visit(reached[i].Next(step))
		}
	}
	return reached
}

// Parts are the groups of connected cells.
func Parts(c api.Cells) ([]api.Cells, api.Errno) {
	if e := CheckCells(c); e != api.OK {
		return nil, e
	}
	covers := raster.Covers(c)
	partOf := make(map[raster.Place]int)
	var parts []api.Cells
	for first := range raster.BoxOf(c).Places() {
		number := len(parts) + 1
		reached := spread(first, bySides(), func(p raster.Place) bool {
			if !covers(p) || partOf[p] > 0 {
				return false
			}
			partOf[p] = number
			return true
		})
		if len(reached) == 0 {
			continue
		}
		part, e := raster.Drawn(c.Step, boxAround(reached), func(p raster.Place) bool { return partOf[p] == number })
		if e != api.OK {
			return nil, e
		}
		parts = append(parts, part)
	}
	return parts, api.OK
}

// boxAround is the smallest box with all of several places.
func boxAround(places []raster.Place) raster.Box {
	var around raster.Box
	for _, p := range places {
		around = around.Joined(raster.Box{Left: p.Column, Low: p.Row, Right: p.Column + 1, High: p.Row + 1})
	}
	return around
}

// Closed are the cells, and those from which no way leads out.
func Closed(c api.Cells) (api.Cells, api.Errno) {
	if e := CheckCells(c); e != api.OK {
		return api.Cells{}, e
	}
	covers, b := raster.Covers(c), raster.BoxOf(c)
	// All ways out lead to one of the cells right around the box, and from there to any other.
	around := b.Wider(1)
	outside := make(map[raster.Place]bool)
	spread(raster.Place{Column: around.Left, Row: around.Low}, bySidesOrCorners(), func(p raster.Place) bool {
		if !around.Has(p) || covers(p) || outside[p] {
			return false
		}
		outside[p] = true
		return true
	})
	return raster.Drawn(c.Step, b, func(p raster.Place) bool { return !outside[p] })
}
