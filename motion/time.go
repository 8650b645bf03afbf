package motion

import (
	"beadlayer/api"
	"beadlayer/exact"
)

// peak is the greatest speed within a leg.
func peak(from, to int, l api.Leg, change int) int {
	squares := from*from + to*to + gain(l, change)
	return greatest(l.Limit, func(speed int) bool { return 2*speed*speed <= squares })
}

// duration is how many microseconds a leg takes: a number, and by what it is divided. Both fit: the number is below 4.1e18.
func duration(from, to int, l api.Leg, change int) (int, int) {
	p := peak(from, to, l, change)
	// With the denominator 2 change p, the document's sum (p - u) / change + (p - w) / change + r / p becomes this one.
	sum := (p-from)*(p-from) + (p-to)*(p-to) + gain(l, change)
	return 1_000_000 * sum, 2 * change * p
}

// roundedUp is how many microseconds a leg takes, rounded up.
func roundedUp(from, to int, l api.Leg, change int) int {
	return exact.Ceil(duration(from, to, l, change))
}

// ofEach is what a function tells of each leg with its planned speeds.
func ofEach(l []api.Leg, corners []int, change int, tell func(from, to int, l api.Leg, change int) int) ([]int, api.Errno) {
	if e := checkMoves(l, corners, change); e != api.OK {
		return nil, e
	}
	speeds := plan(l, corners, change)
	var told []int
	for i, leg := range l {
		told = append(told, tell(speeds[i], speeds[i+1], leg, change))
	}
	return told, api.OK
}

// Peaks are the greatest speeds within legs.
func Peaks(l []api.Leg, corners []int, change int) ([]int, api.Errno) {
	return ofEach(l, corners, change, peak)
}

// Times are how many microseconds legs take, rounded up.
func Times(l []api.Leg, corners []int, change int) ([]int, api.Errno) {
	return ofEach(l, corners, change, roundedUp)
}

// Total is how many microseconds all legs take.
func Total(l []api.Leg, corners []int, change int) (int, api.Errno) {
	times, e := Times(l, corners, change)
	if e != api.OK {
		return 0, e
	}
	sum := 0
	for _, time := range times {
		sum += time
	}
	return sum, api.OK
}

// Exact is how many microseconds a leg takes exactly.
func Exact(from, to int, l api.Leg, change int) (api.Fraction, api.Errno) {
	if e := checkLeg(l, change, from, to); e != api.OK {
		return api.Fraction{}, e
	}
	if !joins(from, to, l, change) {
		return api.Fraction{}, api.ErrRule
	}
	return exact.Lowest(duration(from, to, l, change)), api.OK
}
