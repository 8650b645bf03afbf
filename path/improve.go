package path

import (
	"beadlayer/api"
)

// Improved exchanges visits, as long as this makes the travel less.
func Improved(start api.Point, p []api.Path, o []api.Visit) ([]api.Visit, int, api.Errno) {
	if e := checkTour(start, p, o); e != api.OK {
		return nil, 0, e
	}
	t := tour{start: start}
	for _, v := range o {
		t.stops = append(t.stops, stopOf(p, v))
	}
	for t.improve() {
	}
	var improved []api.Visit
	travel := 0
	for i, s := range t.stops {
		improved = append(improved, s.visit)
		travel += t.to(i)
	}
	return improved, travel, api.OK
}

// tour is stops in an order, and where the head is before them.
type tour struct {
	start api.Point
	stops []stop
}

// improve exchanges the first two stops for which this makes the travel less; false if there are none.
func (t *tour) improve() bool {
	for i := range t.stops {
		for k := i + 1; k < len(t.stops); k++ {
			before := t.near(i, k)
			t.exchange(i, k)
			if t.near(i, k) < before {
				return true
			}
			t.exchange(i, k)
		}
	}
	return false
}

func (t *tour) exchange(i, k int) {
	t.stops[i], t.stops[k] = t.stops[k], t.stops[i]
}

// near is how far the head travels to the stops at two places i < k, and from them to the next ones: all that an exchange changes.
func (t *tour) near(i, k int) int {
	sum := t.to(i) + t.to(i+1) + t.to(k+1)
	if k > i+1 {
		sum += t.to(k)
	}
	return sum
}

// to is how far the head travels to the stop at a place; there is none behind the last one.
func (t *tour) to(i int) int {
	switch i {
	case 0:
		return distance(t.start, t.stops[0].begin)
	case len(t.stops):
		return 0
	}
	return distance(t.stops[i-1].end, t.stops[i].begin)
}
