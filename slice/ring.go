package slice

import (
	"beadlayer/api"
	"beadlayer/exact"
	"beadlayer/polygon"
)

// Rings are the closed contours as rings.
func Rings(m api.Mesh, z int) ([]api.Ring, api.Errno) {
	rings, _, e := ringsAt(m, z)
	if e != api.OK {
		return nil, e
	}
	if e := polygon.CheckRegion(rings); e != api.OK {
		return nil, e
	}
	return rings, api.OK
}

// Doubled is the doubled area of all rings, and how many closed contours were left out.
func Doubled(m api.Mesh, z int) (int, int, api.Errno) {
	rings, left, e := ringsAt(m, z)
	if e != api.OK {
		return 0, 0, e
	}
	sum := 0
	for _, r := range rings {
		sum += polygon.Doubled(r)
	}
	return sum, left, api.OK
}

// ringsAt are the rings, whether they are a region or not, and how many closed contours were left out.
func ringsAt(m api.Mesh, z int) ([]api.Ring, int, api.Errno) {
	contours, e := contoursAt(m, z)
	if e != api.OK {
		return nil, 0, e
	}
	cut := cutAt(m, z)
	var rings []api.Ring
	left := 0
	for _, c := range contours {
		if !c.closed {
			continue
		}
		ring := rounded(c.sides, cut)
		if len(ring) < 3 || polygon.Doubled(ring) == 0 {
			left++
			continue
		}
		rings = append(rings, ring)
	}
	return rings, left, api.OK
}

// rounded are the places of cuts, rounded, without those that are equal to the one before. The last one is before the first one, which stays.
func rounded(sides []api.Side, cut func(api.Side) api.Cut) api.Ring {
	var ring api.Ring
	for _, s := range sides {
		c := cut(s)
		p := api.Point{X: exact.Rounded(c.X), Y: exact.Rounded(c.Y)}
		if len(ring) == 0 || p != ring[len(ring)-1] {
			ring = append(ring, p)
		}
	}
	if len(ring) > 1 && ring[len(ring)-1] == ring[0] {
		ring = ring[:len(ring)-1]
	}
	return ring
}
