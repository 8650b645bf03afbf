package code

import (
	"beadlayer/api"
	"beadlayer/exact"
	"beadlayer/terms"
)

// Faults are the steps at which something is wrong, and what.
func Faults(s []api.Step, least int) ([]int, []api.Errno, api.Errno) {
	if e := CheckSteps(s); e != api.OK {
		return nil, nil, e
	}
	if !terms.Within(least, 0, api.MaxHeat) {
		return nil, nil, api.ErrArg
	}
	var steps []int
	var reasons []api.Errno
	walk(api.Machine{}, s, func(i int, before, after api.Machine) {
		if e := fault(s[i], before, after, least); e != api.OK {
			steps = append(steps, i)
			reasons = append(reasons, e)
		}
	})
	return steps, reasons, api.OK
}

// fault is what is wrong first with a step.
func fault(s api.Step, before, after api.Machine, least int) api.Errno {
	moves := s.Kind == api.StepMove || s.Kind == api.StepPrint
	switch {
	case !isInside(after):
		return api.ErrArg
	case moves && after.Speed == 0:
		return api.ErrState
	case isPrinting(s) && after.Heat < least:
		return api.ErrRule
	case after.Z < before.Z:
		return api.ErrOrder
	}
	return api.OK
}

// isInside reports whether the head is where a printer can print.
func isInside(m api.Machine) bool {
	const far = api.MaxCoordinate
	return terms.Within(m.X, -far, far) && terms.Within(m.Y, -far, far) && terms.Within(m.Z, 0, api.MaxZ)
}

// isPrinting reports whether a step prints something.
func isPrinting(s api.Step) bool {
	return s.Kind == api.StepPrint && s.Flow > 0
}

// distance is how far the head moves: in all directions at the same time.
func distance(from, to api.Machine) int {
	x, y, z := to.X-from.X, to.Y-from.Y, to.Z-from.Z
	return max(x, -x, y, -y, z, -z)
}

// Time is how many milliseconds a program takes.
func Time(s []api.Step) (int, api.Errno) {
	if e := CheckSteps(s); e != api.OK {
		return 0, e
	}
	sum := 0
	walk(api.Machine{}, s, func(i int, before, after api.Machine) {
		if s[i].Kind == api.StepWait {
			sum += s[i].N
		}
		if after.Speed > 0 {
			sum += exact.Ceil(1_000*distance(before, after), after.Speed)
		}
	})
	return sum, api.OK
}
