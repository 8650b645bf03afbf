package code

import (
	"beadlayer/api"
	"beadlayer/path"
	"beadlayer/terms"
)

// The limits and units of what is printed along paths.
const (
	maxFeed  = 100_000 // filament for feedUnit
	feedUnit = 1_000
)

// Printed is what is printed: paths, with their heights and flows.
func Printed(s []api.Step) ([]api.Path, []int, []int, api.Errno) {
	if e := CheckSteps(s); e != api.OK {
		return nil, nil, nil, e
	}
	var paths []api.Path
	var heights, flows []int
	goesOn := false
	walk(api.Machine{}, s, func(i int, before, after api.Machine) {
		if !isPrinting(s[i]) {
			goesOn = goesOn && !interrupts(s[i])
			return
		}
		if !goesOn {
			paths = append(paths, api.Path{Points: []api.Point{pointOf(before)}})
			heights, flows = append(heights, before.Z), append(flows, 0)
		}
		goesOn = true
		last := len(paths) - 1
		paths[last].Points = led(paths[last].Points, pointOf(after))
		flows[last] += s[i].Flow
	})
	if e := path.CheckPaths(paths); e != api.OK {
		return nil, nil, nil, e
	}
	return paths, heights, flows, api.OK
}

// interrupts reports whether a step that prints nothing ends a path.
func interrupts(s api.Step) bool {
	return s.Kind == api.StepMove || s.Kind == api.StepLayer || s.Kind == api.StepPrint
}

func pointOf(m api.Machine) api.Point {
	return api.Point{X: m.X, Y: m.Y}
}

// led are points that lead on to another one, if they do not end there.
func led(points []api.Point, to api.Point) []api.Point {
	if points[len(points)-1] == to {
		return points
	}
	return append(points, to)
}

// Made is a program that prints paths.
func Made(p []api.Path, o []api.Visit, z, flow int) ([]api.Step, api.Errno) {
	if e := path.CheckOrder(p, o); e != api.OK {
		return nil, e
	}
	if !terms.Within(z, 0, api.MaxZ) || !terms.Within(flow, 0, maxFeed) {
		return nil, api.ErrArg
	}
	all := []api.Step{{Kind: api.StepLayer, Z: z}}
	for _, visit := range o {
		points, _ := path.Points(p, visit) // the order is checked
		kind := api.StepMove
		for _, point := range points {
			all = append(all, api.Step{Kind: kind, X: point.X, Y: point.Y})
			kind = api.StepPrint
		}
	}
	return checked(fed(all, flow))
}

// fed are the steps with the flow of each StepPrint, so much for feedUnit. What is rounded off is carried on to the next one.
func fed(s []api.Step, flow int) []api.Step {
	var all []api.Step
	length, sum := 0, 0
	walk(api.Machine{}, s, func(i int, before, after api.Machine) {
		step := s[i]
		if step.Kind == api.StepPrint {
			length += distance(before, after)
			step.Flow = flow*length/feedUnit - sum
			sum += step.Flow
		}
		all = append(all, step)
	})
	return all
}
