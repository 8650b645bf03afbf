package code

import (
	"slices"

	"beadlayer/api"
)

// walk tells of each step in order how the printer is before it, and after it, if it is as start at the beginning. It returns how it is at the end.
func walk(start api.Machine, s []api.Step, tell func(i int, before, after api.Machine)) api.Machine {
	for i, step := range s {
		after := done(start, step)
		tell(i, start, after)
		start = after
	}
	return start
}

// done is how a printer is after a step.
func done(m api.Machine, s api.Step) api.Machine {
	switch s.Kind {
	case api.StepAbsolute:
		m.Relative = false
	case api.StepRelative:
		m.Relative = true
	case api.StepMove, api.StepPrint:
		m.X, m.Y = reached(m.Relative, m.X, s.X), reached(m.Relative, m.Y, s.Y)
		m.Flow += s.Flow
	case api.StepLayer:
		m.Z = reached(m.Relative, m.Z, s.Z)
	case api.StepSpeed:
		m.Speed = s.N
	case api.StepHeat:
		m.Heat = s.N
	case api.StepTool:
		m.Tool = s.N
	}
	return m
}

// reached is where the head is, in one direction, after it was at a place, and another one was told.
func reached(relative bool, at, told int) int {
	if relative {
		return at + told
	}
	return told
}

// end is how the printer is after valid steps.
func end(s []api.Step) api.Machine {
	return walk(api.Machine{}, s, func(int, api.Machine, api.Machine) {})
}

// Run is the status after each step.
func Run(s []api.Step) ([]api.Machine, api.Errno) {
	if e := CheckSteps(s); e != api.OK {
		return nil, e
	}
	var all []api.Machine
	walk(api.Machine{}, s, func(_ int, _, after api.Machine) {
		all = append(all, after)
	})
	return all, api.OK
}

// Last is the status at the end.
func Last(s []api.Step) (api.Machine, api.Errno) {
	if e := CheckSteps(s); e != api.OK {
		return api.Machine{}, e
	}
	return end(s), api.OK
}

// stay is a status that lasts, and how long the printer waits in it.
type stay struct {
	status api.Machine
	wait   int
}

// stays are what a program does, however it tells the places: the statuses that are different from those before them.
func stays(s []api.Step) []stay {
	all := []stay{{}}
	walk(api.Machine{}, s, func(i int, _, after api.Machine) {
		after.Relative = false
		if after != all[len(all)-1].status {
			all = append(all, stay{status: after})
		}
		if s[i].Kind == api.StepWait {
			all[len(all)-1].wait += s[i].N
		}
	})
	return all
}

// Same says whether two programs do the same.
func Same(a, b []api.Step) (bool, api.Errno) {
	if e := CheckSteps(a); e != api.OK {
		return false, e
	}
	if e := CheckSteps(b); e != api.OK {
		return false, e
	}
	return slices.Equal(stays(a), stays(b)), api.OK
}
