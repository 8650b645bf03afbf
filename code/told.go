package code

import (
	"slices"

	"beadlayer/api"
)

// retold are steps with other places, without StepAbsolute and StepRelative; place tells the place of a step from how the printer is before it, and after it.
func retold(start api.Machine, s []api.Step, place func(before, after api.Machine) api.Vec) []api.Step {
	var all []api.Step
	walk(start, s, func(i int, before, after api.Machine) {
		step, at := s[i], place(before, after)
		switch step.Kind {
		case api.StepAbsolute, api.StepRelative:
			return
		case api.StepMove, api.StepPrint:
			step.X, step.Y = at.X, at.Y
		case api.StepLayer:
			step.Z = at.Z
		}
		all = append(all, step)
	})
	return all
}

// absolute are steps whose places are told absolutely.
func absolute(start api.Machine, s []api.Step) []api.Step {
	return retold(start, s, func(_, after api.Machine) api.Vec {
		return api.Vec{X: after.X, Y: after.Y, Z: after.Z}
	})
}

// Absolute is a program whose places are told absolutely.
func Absolute(s []api.Step) ([]api.Step, api.Errno) {
	if e := CheckSteps(s); e != api.OK {
		return nil, e
	}
	return checked(absolute(api.Machine{}, s))
}

// Relative is a program whose places are told relatively.
func Relative(s []api.Step) ([]api.Step, api.Errno) {
	if e := CheckSteps(s); e != api.OK {
		return nil, e
	}
	all := retold(api.Machine{}, s, func(before, after api.Machine) api.Vec {
		return api.Vec{X: after.X - before.X, Y: after.Y - before.Y, Z: after.Z - before.Z}
	})
	if len(all) > 0 {
		all = slices.Insert(all, 0, api.Step{Kind: api.StepRelative})
	}
	return checked(all)
}

// Short leaves out what changes nothing. What is left out does not change where the other steps lead to: so it is enough to go through the steps once, and to look back at those that are left.
func Short(s []api.Step) ([]api.Step, api.Errno) {
	whole, e := Absolute(s)
	if e != api.OK {
		return nil, e
	}
	var all []api.Step
	status := []api.Machine{{}} // before each of all, and at the end
	for _, step := range whole {
		if last := len(all) - 1; last >= 0 && leavesAgain(all[last], step) {
			all, status = all[:last], status[:last+1]
		}
		before := status[len(all)]
		after := done(before, step)
		if after != before || takesTime(step) {
			all, status = append(all, step), append(status, after)
		}
	}
	return all, api.OK
}

// leavesAgain reports whether a step only leads to a place that the next one leaves again.
func leavesAgain(s, next api.Step) bool {
	return s.Kind == next.Kind && (s.Kind == api.StepMove || s.Kind == api.StepLayer)
}

// takesTime reports whether a step changes something though it changes no status.
func takesTime(s api.Step) bool {
	return s.Kind == api.StepWait && s.N > 0
}
