package code

import (
	"slices"

	"beadlayer/api"
	"beadlayer/terms"
)

// Joined are the steps of two programs, one behind the other.
func Joined(a, b []api.Step) ([]api.Step, api.Errno) {
	if e := CheckSteps(a); e != api.OK {
		return nil, e
	}
	if e := CheckSteps(b); e != api.OK {
		return nil, e
	}
	var between []api.Step
	if end(a).Relative {
		between = []api.Step{{Kind: api.StepAbsolute}}
	}
	return checked(slices.Concat(a, between, b))
}

// Layer is the absolute form of the steps of a layer.
func Layer(s []api.Step, n int) ([]api.Step, api.Errno) {
	if e := CheckSteps(s); e != api.OK {
		return nil, e
	}
	var layers []int
	for i, step := range s {
		if step.Kind == api.StepLayer {
			layers = append(layers, i)
		}
	}
	if !terms.Within(n, 1, len(layers)) {
		return nil, api.ErrNone
	}
	from := layers[n-1] + 1
	to := append(layers, len(s))[n]
	there := end(s[:from])
	return checked(append(setUp(there), absolute(there, s[from:to])...))
}

// setUp are steps that bring a printer at the beginning into a status, but for its height and what is printed.
func setUp(m api.Machine) []api.Step {
	settings := []api.Step{{Kind: api.StepSpeed, N: m.Speed}, {Kind: api.StepHeat, N: m.Heat}, {Kind: api.StepTool, N: m.Tool}}
	isUnset := func(step api.Step) bool { return step.N == 0 }
	return append(slices.DeleteFunc(settings, isUnset), api.Step{Kind: api.StepMove, X: m.X, Y: m.Y})
}
