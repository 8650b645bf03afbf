package path

import (
	"slices"

	"beadlayer/api"
)

// stop is a visit with where it begins and ends, and the least travel that is left behind it.
type stop struct {
	visit      api.Visit
	begin, end api.Point
	rest       int
}

func stopOf(p []api.Path, v api.Visit) stop {
	begin, end := ends(p[v.Path], v)
	return stop{visit: v, begin: begin, end: end}
}

// stopsAt are all visits of a path, by Start, then Back.
func stopsAt(p []api.Path, path int) []stop {
	if !p[path].Closed {
		return []stop{stopOf(p, api.Visit{Path: path}), stopOf(p, api.Visit{Path: path, Back: true})}
	}
	stops := make([]stop, 0, len(p[path].Points))
	for start := range p[path].Points {
		stops = append(stops, stopOf(p, api.Visit{Path: path, Start: start}))
	}
	return stops
}

// cheapest is the first one of stops with the least travel to it from a point, and behind it, and this travel; there is at least one.
func cheapest(from api.Point, stops []stop) (int, int) {
	first, least := 0, distance(from, stops[0].begin)+stops[0].rest
	for i := range stops {
		if travel := distance(from, stops[i].begin) + stops[i].rest; travel < least {
			first, least = i, travel
		}
	}
	return first, least
}

// stopsBefore are all visits of a path, behind each of which one of the next stops follows, if there are any.
func stopsBefore(p []api.Path, path int, next []stop) []stop {
	stops := stopsAt(p, path)
	if len(next) == 0 {
		return stops
	}
	for i, s := range stops {
		_, stops[i].rest = cheapest(s.end, next)
	}
	return stops
}

// trip is what the head has visited, where it is, and how far it has travelled.
type trip struct {
	visits []api.Visit
	at     api.Point
	travel int
}

// goOn leads to the cheapest one of stops, and returns its path.
func (t *trip) goOn(stops []stop) int {
	i, _ := cheapest(t.at, stops)
	next := stops[i]
	t.visits = append(t.visits, next.visit)
	t.travel += distance(t.at, next.begin)
	t.at = next.end
	return next.visit.Path
}

// pathSet has a bit for each of at most MaxExact paths.
type pathSet uint

func (s pathSet) without(path int) pathSet {
	return s &^ (1 << path)
}

func (s pathSet) has(path int) bool {
	return s.without(path) != s
}

// search knows for paths that are left which stops can follow: by Path, Start, then Back.
type search struct {
	paths []api.Path
	known map[pathSet][]stop
}

func (s *search) stops(left pathSet) []stop {
	if stops, ok := s.known[left]; ok {
		return stops
	}
	var stops []stop
	for path := range s.paths {
		if left.has(path) {
			stops = append(stops, stopsBefore(s.paths, path, s.stops(left.without(path)))...)
		}
	}
	s.known[left] = stops
	return stops
}

// Best is the order with the least travel.
func Best(start api.Point, p []api.Path) ([]api.Visit, int, api.Errno) {
	if e := checkStart(start, p); e != api.OK {
		return nil, 0, e
	}
	if len(p) > api.MaxExact {
		return nil, 0, api.ErrLarge
	}
	s := search{paths: p, known: make(map[pathSet][]stop)}
	t := trip{at: start}
	for left := pathSet(1)<<len(p) - 1; left != 0; {
		left = left.without(t.goOn(s.stops(left)))
	}
	return t.visits, t.travel, api.OK
}

// Nearest always visits the path that can be begun nearest.
func Nearest(start api.Point, p []api.Path) ([]api.Visit, int, api.Errno) {
	if e := checkStart(start, p); e != api.OK {
		return nil, 0, e
	}
	var left []stop
	for path := range p {
		left = append(left, stopsAt(p, path)...)
	}
	t := trip{at: start}
	for len(left) > 0 {
		path := t.goOn(left)
		left = slices.DeleteFunc(left, func(s stop) bool { return s.visit.Path == path })
	}
	return t.visits, t.travel, api.OK
}

// Begun are the visits of paths in an order with the least travel.
func Begun(start api.Point, p []api.Path, order []int) ([]api.Visit, int, api.Errno) {
	if e := checkStart(start, p); e != api.OK {
		return nil, 0, e
	}
	if e := checkIndices(order, len(p)); e != api.OK {
		return nil, 0, e
	}
	stops := make([][]stop, len(order))
	var next []stop
	for i, path := range slices.Backward(order) {
		next = stopsBefore(p, path, next)
		stops[i] = next
	}
	t := trip{at: start}
	for _, each := range stops {
		t.goOn(each)
	}
	return t.visits, t.travel, api.OK
}

// checkIndices validates a list of all numbers from 0 to n - 1.
func checkIndices(list []int, n int) api.Errno {
	if len(list) != n {
		return api.ErrForm
	}
	met := make(map[int]bool)
	for _, i := range list {
		if i < 0 || i >= n {
			return api.ErrArg
		}
		if met[i] {
			return api.ErrTwice
		}
		met[i] = true
	}
	return api.OK
}
