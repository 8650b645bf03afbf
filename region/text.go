package region

import (
	"beadlayer/api"
	"beadlayer/points"
)

// ringWord is the line before the corners of a ring.
const ringWord = "ring"

// Text writes a region.
func Text(r []api.Ring) (string, api.Errno) {
	if e := CheckRegion(r); e != api.OK {
		return "", e
	}
	var lists []points.List
	for _, ring := range r {
		lists = append(lists, points.List{Word: ringWord, Points: ring})
	}
	return points.Text(lists)
}

// Read reads a region.
func Read(text string) ([]api.Ring, int, api.Errno) {
	lists, wrong, e := points.Read(text, ringWord)
	if e != api.OK {
		return nil, wrong, e
	}
	var r []api.Ring
	for _, list := range lists {
		r = append(r, list.Points)
	}
	if e := CheckRegion(r); e != api.OK {
		return nil, 0, e
	}
	return r, 0, api.OK
}
