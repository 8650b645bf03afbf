package path

import (
	"slices"

	"beadlayer/api"
)

// Chained joins paths that follow one another.
func Chained(p []api.Path) ([]api.Path, api.Errno) {
	if e := CheckPaths(p); e != api.OK {
		return nil, e
	}
	var chained []api.Path
	for _, one := range p {
		chained = append(chained, api.Path{Points: slices.Clone(one.Points), Closed: one.Closed})
	}
	for i, k := following(chained); i >= 0; i, k = following(chained) {
		chained[i].Points = append(chained[i].Points, chained[k].Points[1:]...)
		chained = slices.Delete(chained, k, k+1)
	}
	if e := CheckPaths(chained); e != api.OK {
		return nil, e
	}
	return chained, api.OK
}

// following are the first path that ends where another one begins, and the first one that begins there; -1 and -1 if there are none. Closed paths are neither.
func following(p []api.Path) (int, int) {
	begun := make(map[api.Point][]int)
	for i, one := range p {
		if !one.Closed {
			begun[one.Points[0]] = append(begun[one.Points[0]], i)
		}
	}
	for i, one := range p {
		if one.Closed {
			continue
		}
		for _, k := range begun[one.Points[len(one.Points)-1]] {
			if k != i {
				return i, k
			}
		}
	}
	return -1, -1
}
