package flow

import (
	"beadlayer/api"
	"beadlayer/exact"
	"beadlayer/terms"
)

// The limits of what is printed with beads.
const (
	maxFlow    = 1_000_000_000_000
	maxDensity = 1_000_000
	maxWeighed = 1_000_000_000_000
)

// weightUnit is by what a volume times a density is divided.
const weightUnit = 1_000_000_000_000

// Retracted is what the feeder does in turn.
func Retracted(b []api.Bead, area, back int, at []int) ([]int, api.Errno) {
	amounts, e := Amounts(b, area)
	if e != api.OK {
		return nil, e
	}
	if !terms.Within(back, 1, api.MaxWide) {
		return nil, api.ErrArg
	}
	if e := checkPlaces(at, len(b)); e != api.OK {
		return nil, e
	}
	var feeds []int
	for i, amount := range amounts {
		if len(at) > 0 && at[0] == i {
			feeds = append(feeds, -back, back)
			at = at[1:]
		}
		feeds = append(feeds, amount)
	}
	return feeds, api.OK
}

// checkPlaces validates indices of some of so many beads.
func checkPlaces(at []int, beads int) api.Errno {
	if len(at) > api.MaxBeads {
		return api.ErrLarge
	}
	for i, place := range at {
		if place < 0 || place >= beads {
			return api.ErrArg
		}
		if i > 0 && place <= at[i-1] {
			return api.ErrOrder
		}
	}
	return api.OK
}

// Fastest is the greatest speed of each bead.
func Fastest(b []api.Bead, flow int) ([]int, api.Errno) {
	if e := CheckBeads(b); e != api.OK {
		return nil, e
	}
	if !terms.Within(flow, 1, maxFlow) {
		return nil, api.ErrArg
	}
	var speeds []int
	for _, bead := range b {
		speeds = append(speeds, flow/(bead.Wide*bead.High))
	}
	return speeds, api.OK
}

// Slowed are times that are not too short, and by how much they grow.
func Slowed(times []int, least int) ([]int, int, api.Errno) {
	if len(times) > api.MaxBeads {
		return nil, 0, api.ErrLarge
	}
	for _, time := range times {
		if !terms.Within(time, 0, api.DayLong) {
			return nil, 0, api.ErrArg
		}
	}
	if !terms.Within(least, 0, api.DayLong) {
		return nil, 0, api.ErrArg
	}
	var slowed []int
	growth := 0
	for _, time := range times {
		slowed = append(slowed, max(time, least))
		growth += max(time, least) - time
	}
	return slowed, growth, api.OK
}

// Weight is the volume times density.
func Weight(b []api.Bead, density int) (api.Fraction, api.Errno) {
	volume, e := Volume(b)
	if e != api.OK {
		return api.Fraction{}, e
	}
	if !terms.Within(density, 1, maxDensity) {
		return api.Fraction{}, api.ErrArg
	}
	if volume > maxWeighed {
		return api.Fraction{}, api.ErrFull
	}
	return exact.Lowest(volume*density, weightUnit), api.OK
}
