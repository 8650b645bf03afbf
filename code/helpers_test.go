package code_test

import (
	"math/rand"
	"reflect"
	"slices"
	"testing"

	"beadlayer/api"
	"beadlayer/code"
)

const (
	least    = -1 << 63
	greatest = 1<<63 - 1
	far      = api.MaxCoordinate
	farther  = 2 * api.MaxCoordinate
)

func absolute() api.Step             { return api.Step{Kind: api.StepAbsolute} }
func relative() api.Step             { return api.Step{Kind: api.StepRelative} }
func move(x, y int) api.Step         { return api.Step{Kind: api.StepMove, X: x, Y: y} }
func prints(x, y, n int) api.Step    { return api.Step{Kind: api.StepPrint, X: x, Y: y, Flow: n} }
func layer(z int) api.Step           { return api.Step{Kind: api.StepLayer, Z: z} }
func speed(n int) api.Step           { return api.Step{Kind: api.StepSpeed, N: n} }
func wait(n int) api.Step            { return api.Step{Kind: api.StepWait, N: n} }
func heat(n int) api.Step            { return api.Step{Kind: api.StepHeat, N: n} }
func tool(n int) api.Step            { return api.Step{Kind: api.StepTool, N: n} }
func steps(s ...api.Step) []api.Step { return s }

// sample is the example of the chapter.
func sample() []api.Step {
	return steps(speed(100), relative(), move(10, 0), prints(5, 0, 7), layer(2))
}

func list(n ...int) []int { return n }

// open is a path whose points are told as X, Y, X, Y ..
func open(n ...int) api.Path {
	var p api.Path
	for i := 0; i < len(n); i += 2 {
		p.Points = append(p.Points, api.Point{X: n[i], Y: n[i+1]})
	}
	return p
}

func closed(n ...int) api.Path {
	p := open(n...)
	p.Closed = true
	return p
}

// inOrder visits so many paths as they are.
func inOrder(count int) []api.Visit {
	var o []api.Visit
	for i := range count {
		o = append(o, api.Visit{Path: i})
	}
	return o
}

// randomStep has few places and numbers, so that many of them are the same.
func randomStep(r *rand.Rand) api.Step {
	x, y := r.Intn(5)-2, r.Intn(3)-1
	switch r.Intn(11) {
	case 0:
		return absolute()
	case 1:
		return relative()
	case 2, 3:
		return move(x, y)
	case 4, 5, 6:
		return prints(x, y, r.Intn(3))
	case 7:
		return layer(r.Intn(5) - 1)
	case 8:
		return speed(1 + r.Intn(3))
	case 9:
		return wait(r.Intn(3))
	}
	return steps(heat(r.Intn(3)), tool(r.Intn(3)))[r.Intn(2)]
}

func randomSteps(r *rand.Rand, most int) []api.Step {
	var s []api.Step
	for range r.Intn(most + 1) {
		s = append(s, randomStep(r))
	}
	return s
}

// randomPaths have successive points that are different, and an order.
func randomPaths(r *rand.Rand) ([]api.Path, []api.Visit) {
	var p []api.Path
	var o []api.Visit
	for _, i := range r.Perm(r.Intn(5)) {
		one := open(r.Intn(9), r.Intn(9))
		for range r.Intn(5) {
			last := one.Points[len(one.Points)-1]
			one.Points = append(one.Points, api.Point{X: last.X + 1 + r.Intn(3), Y: last.Y + r.Intn(9) - 4})
		}
		v := api.Visit{Path: i, Back: r.Intn(2) == 0}
		p, o = append(p, one), append(o, v)
	}
	for i, v := range o {
		if n := len(p[v.Path].Points); n > 2 && r.Intn(2) == 0 {
			p[v.Path].Closed = true
			o[i] = api.Visit{Path: v.Path, Start: r.Intn(n)}
		}
	}
	return p, o
}

// states are the statuses before and after each step, as P8.2 says it.
func states(s []api.Step) []api.Machine {
	all := []api.Machine{{}}
	for _, x := range s {
		m := all[len(all)-1]
		var from api.Machine
		if m.Relative {
			from = m
		}
		switch {
		case x.Kind == api.StepAbsolute || x.Kind == api.StepRelative:
			m.Relative = x.Kind == api.StepRelative
		case x.Kind == api.StepMove || x.Kind == api.StepPrint:
			m.X, m.Y, m.Flow = from.X+x.X, from.Y+x.Y, m.Flow+x.Flow
		case x.Kind == api.StepLayer:
			m.Z = from.Z + x.Z
		case x.Kind == api.StepSpeed:
			m.Speed = x.N
		case x.Kind == api.StepHeat:
			m.Heat = x.N
		case x.Kind == api.StepTool:
			m.Tool = x.N
		}
		all = append(all, m)
	}
	return all
}

func isZero(value any) bool {
	v := reflect.ValueOf(value)
	if v.Kind() == reflect.Slice {
		return v.Len() == 0
	}
	return v.IsZero()
}

// call is a function of the package, with all its arguments.
type call struct {
	name string
	run  func() ([]any, api.Errno)
}

// fails checks that calls return an error, and zero values with it.
func fails(t *testing.T, name any, e api.Errno, calls ...call) {
	t.Helper()
	for _, f := range calls {
		results, got := f.run()
		if got != e || slices.ContainsFunc(results, func(x any) bool { return !isZero(x) }) {
			t.Errorf("%.100v %s %.100v %v, not %v", name, f.name, results, got, e)
		}
	}
}

// withSteps are the functions with steps alone.
func withSteps(s []api.Step) []call {
	return []call{
		{"CheckSteps", func() ([]any, api.Errno) { return nil, code.CheckSteps(s) }},
		{"Run", func() ([]any, api.Errno) { l, e := code.Run(s); return []any{l}, e }},
		{"Last", func() ([]any, api.Errno) { m, e := code.Last(s); return []any{m}, e }},
		{"Time", func() ([]any, api.Errno) { n, e := code.Time(s); return []any{n}, e }},
		{"Text", func() ([]any, api.Errno) { x, e := code.Text(s); return []any{x}, e }},
		printed(s),
		inAbsolute(s),
		inRelative(s),
		short(s),
	}
}

// withOthers are the functions with steps and other arguments.
func withOthers(s []api.Step, coldest, n int) []call {
	return []call{faults(s, coldest), layerOf(s, n)}
}

// withTwo are the functions with two programs.
func withTwo(a, b []api.Step) []call {
	return []call{
		{"Same", func() ([]any, api.Errno) { is, e := code.Same(a, b); return []any{is}, e }},
		joined(a, b),
	}
}

func printed(s []api.Step) call {
	return call{"Printed", func() ([]any, api.Errno) { p, z, n, e := code.Printed(s); return []any{p, z, n}, e }}
}

func inAbsolute(s []api.Step) call {
	return call{"Absolute", func() ([]any, api.Errno) { l, e := code.Absolute(s); return []any{l}, e }}
}

func inRelative(s []api.Step) call {
	return call{"Relative", func() ([]any, api.Errno) { l, e := code.Relative(s); return []any{l}, e }}
}

func short(s []api.Step) call {
	return call{"Short", func() ([]any, api.Errno) { l, e := code.Short(s); return []any{l}, e }}
}

func faults(s []api.Step, coldest int) call {
	return call{"Faults", func() ([]any, api.Errno) { l, w, e := code.Faults(s, coldest); return []any{l, w}, e }}
}

func layerOf(s []api.Step, n int) call {
	return call{"Layer", func() ([]any, api.Errno) { l, e := code.Layer(s, n); return []any{l}, e }}
}

func joined(a, b []api.Step) call {
	return call{"Joined", func() ([]any, api.Errno) { l, e := code.Joined(a, b); return []any{l}, e }}
}

func made(p []api.Path, o []api.Visit, z, flow int) call {
	return call{"Made", func() ([]any, api.Errno) { l, e := code.Made(p, o, z, flow); return []any{l}, e }}
}

func read(text string) call {
	return call{"Read", func() ([]any, api.Errno) { s, n, e := code.Read(text); return []any{s, n}, e }}
}
