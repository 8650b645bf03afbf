package motion

import (
	"slices"
	"sort"

	"beadlayer/api"
	"beadlayer/exact"
)

// greatest is the greatest speed from 0 to a limit that is permitted, where 0 is, and each speed below a permitted one.
func greatest(limit int, permitted func(speed int) bool) int {
	return sort.Search(limit, func(speed int) bool { return !permitted(speed + 1) })
}

// gain is by how much the squares of the speeds at the beginning and the end of a leg differ at most.
func gain(l api.Leg, change int) int {
	return 2 * change * l.Long
}

// joins reports whether the speed can change from one to the other within a leg.
func joins(from, to int, l api.Leg, change int) bool {
	difference := to*to - from*from
	return max(difference, -difference) <= gain(l, change)
}

// opposite is the greatest speed at one end of a leg with a speed at the other end.
func opposite(speed int, l api.Leg, change int) int {
	square := speed*speed + gain(l, change)
	return greatest(l.Limit, func(other int) bool { return other*other <= square })
}

// bounds are the greatest speeds at the ends of legs, whatever is at the other ends.
func bounds(l []api.Leg, corners []int) []int {
	most := []int{0}
	for i, corner := range corners {
		most = append(most, min(corner, l[i].Limit, l[i+1].Limit))
	}
	return append(most, 0)
}

// plan is what Speeds returns. The way back cannot break what the way there has set up: it lowers a speed at most to one that is not below that of the leg's end.
func plan(l []api.Leg, corners []int, change int) []int {
	speeds := bounds(l, corners)
	for i, leg := range l {
		speeds[i+1] = min(speeds[i+1], opposite(speeds[i], leg, change))
	}
	for i, leg := range slices.Backward(l) {
		speeds[i] = min(speeds[i], opposite(speeds[i+1], leg, change))
	}
	return speeds
}

// Speeds are the greatest ones that keep the limits.
func Speeds(l []api.Leg, corners []int, change int) ([]int, api.Errno) {
	if e := checkMoves(l, corners, change); e != api.OK {
		return nil, e
	}
	return plan(l, corners, change), api.OK
}

// checkSpeeds validates all that speeds depend on, and how many speeds there are.
func checkSpeeds(l []api.Leg, corners, v []int, change int) api.Errno {
	if e := checkMoves(l, corners, change); e != api.OK {
		return e
	}
	if len(v) != len(l)+1 {
		return api.ErrForm
	}
	return api.OK
}

// keep reports whether speeds keep the limits. It looks at the bounds of all first, so that no square is too large.
func keep(l []api.Leg, corners, v []int, change int) bool {
	for i, most := range bounds(l, corners) {
		if v[i] < 0 || v[i] > most {
			return false
		}
	}
	for i, leg := range l {
		if !joins(v[i], v[i+1], leg, change) {
			return false
		}
	}
	return true
}

// Kept says whether speeds keep the limits.
func Kept(l []api.Leg, corners, v []int, change int) (bool, api.Errno) {
	if e := checkSpeeds(l, corners, v, change); e != api.OK {
		return false, e
	}
	return keep(l, corners, v, change), api.OK
}

// Slow are the places of speeds that could be greater.
func Slow(l []api.Leg, corners, v []int, change int) ([]int, api.Errno) {
	if e := checkSpeeds(l, corners, v, change); e != api.OK {
		return nil, e
	}
	if !keep(l, corners, v, change) {
		return nil, api.ErrRule
	}
	var places []int
	for i, most := range plan(l, corners, change) {
		if v[i] < most {
			places = append(places, i)
		}
	}
	return places, api.OK
}

// Brake is in how many micrometres a speed can be brought to 0.
func Brake(speed, change int) (int, api.Errno) {
	if e := checkSpeed(speed, api.MaxSpeed); e != api.OK {
		return 0, e
	}
	if e := checkChange(change); e != api.OK {
		return 0, e
	}
	return exact.Ceil(speed*speed, 2*change), api.OK
}

// checkLeg validates a leg, and speeds at its ends.
func checkLeg(l api.Leg, change int, speeds ...int) api.Errno {
	if e := checkMoves([]api.Leg{l}, nil, change); e != api.OK {
		return e
	}
	for _, speed := range speeds {
		if e := checkSpeed(speed, l.Limit); e != api.OK {
			return e
		}
	}
	return api.OK
}

// Reached is the greatest speed at the end of a leg.
func Reached(from int, l api.Leg, change int) (int, api.Errno) {
	if e := checkLeg(l, change, from); e != api.OK {
		return 0, e
	}
	return opposite(from, l, change), api.OK
}
