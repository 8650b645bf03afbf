package code_test

import (
	"slices"
	"testing"

	"beadlayer/api"
	"beadlayer/code"
)

// P8.1: steps of all kinds, at the bounds of their fields.
func TestCheckSteps(t *testing.T) {
	for _, s := range [][]api.Step{
		nil,
		sample(),
		steps(absolute(), relative(), absolute(), absolute()),
		steps(move(0, 0), move(-farther, farther), move(farther, -farther)),
		steps(prints(0, 0, 0), prints(-farther, farther, api.MaxFlow), prints(farther, -farther, 1)),
		steps(layer(0), layer(-api.MaxZ), layer(api.MaxZ)),
		steps(speed(1), speed(api.MaxSpeed)),
		steps(wait(0), wait(api.MaxWait)),
		steps(heat(0), heat(api.MaxHeat)),
		steps(tool(0), tool(9)),
		slices.Repeat(steps(wait(0)), api.MaxSteps),
		slices.Repeat(steps(move(farther, farther)), api.MaxSteps),
	} {
		if e := code.CheckSteps(s); e != api.OK {
			t.Errorf("%.100v %v", s, e)
		}
	}
}

// wrongSteps are single steps with each error, at its bounds, and with several of them.
func wrongSteps() map[api.Step]api.Errno {
	wrong := map[api.Step]api.Errno{
		{}:                                api.ErrKind,
		{Kind: -1}:                        api.ErrKind,
		{Kind: 10}:                        api.ErrKind,
		{Kind: least}:                     api.ErrKind,
		{Kind: greatest}:                  api.ErrKind,
		{Kind: 10, X: greatest}:           api.ErrKind,
		{Kind: 0, N: 1, Z: least}:         api.ErrKind,
		speed(0):                          api.ErrArg,
		speed(-1):                         api.ErrArg,
		speed(api.MaxSpeed + 1):           api.ErrArg,
		wait(-1):                          api.ErrArg,
		wait(api.MaxWait + 1):             api.ErrArg,
		heat(-1):                          api.ErrArg,
		heat(api.MaxHeat + 1):             api.ErrArg,
		tool(-1):                          api.ErrArg,
		tool(10):                          api.ErrArg,
		{Kind: api.StepSpeed, X: 1}:       api.ErrArg, // N is 0, too
		{Kind: api.StepTool, Y: 1, N: 10}: api.ErrArg,
		{Kind: api.StepMove, Z: 1, X: farther + 1}: api.ErrArg,
	}
	for _, n := range list(least, -farther-1, farther+1, greatest) {
		wrong[move(n, 0)], wrong[move(0, n)] = api.ErrArg, api.ErrArg
		wrong[prints(n, 0, 1)], wrong[prints(0, n, 1)] = api.ErrArg, api.ErrArg
		wrong[api.Step{Kind: api.StepLayer, X: n}], wrong[api.Step{Kind: api.StepAbsolute, Y: n}] = api.ErrArg, api.ErrArg
	}
	for _, n := range list(least, -api.MaxZ-1, api.MaxZ+1, greatest) {
		wrong[layer(n)], wrong[api.Step{Kind: api.StepMove, Z: n}] = api.ErrArg, api.ErrArg
	}
	for _, n := range list(least, -1, api.MaxFlow+1, greatest) {
		wrong[prints(0, 0, n)], wrong[api.Step{Kind: api.StepMove, Flow: n}] = api.ErrArg, api.ErrArg
	}
	for _, n := range list(least, greatest) {
		wrong[speed(n)], wrong[wait(n)], wrong[heat(n)], wrong[tool(n)] = api.ErrArg, api.ErrArg, api.ErrArg, api.ErrArg
	}
	for kind, used := range map[int]string{
		api.StepAbsolute: "", api.StepRelative: "", api.StepMove: "XY", api.StepPrint: "XYF", api.StepLayer: "Z",
		api.StepSpeed: "N", api.StepWait: "N", api.StepHeat: "N", api.StepTool: "N",
	} {
		for field, step := range map[string]api.Step{"XY": {X: 1}, "YX": {Y: -1}, "Z": {Z: 1}, "F": {Flow: 1}, "N": {N: 1}} {
			step.Kind = kind
			if kind == api.StepSpeed {
				step.N = 1
			}
			if !slices.Contains([]byte(used), field[0]) {
				wrong[step] = api.ErrForm
			}
		}
	}
	wrong[api.Step{Kind: api.StepAbsolute, N: least}], wrong[api.Step{Kind: api.StepLayer, N: greatest}] = api.ErrForm, api.ErrForm
	return wrong
}

// P8.1: each error of a step, in all functions, also behind and ahead of other steps; in the order of the steps.
func TestWrongSteps(t *testing.T) {
	wrong := wrongSteps()
	if len(wrong) < 80 {
		t.Error(len(wrong))
	}
	for step, e := range wrong {
		for _, s := range [][]api.Step{steps(step), append(sample(), step), steps(step, absolute(), api.Step{}), steps(step, speed(0)), steps(step, api.Step{Kind: api.StepMove, Z: 1})} {
			fails(t, s, e, withSteps(s)...)
			fails(t, s, e, withOthers(s, 0, 1)...)
			fails(t, s, e, withOthers(s, -1, 0)...)
			fails(t, s, e, withTwo(s, s)...)
			fails(t, s, e, withTwo(sample(), s)...)
			fails(t, s, e, withTwo(s, steps(api.Step{}))...)
			fails(t, s, e, withTwo(s, steps(speed(0)))...)
		}
	}
}

// P8.1: more than MaxSteps steps, before all other errors, for each list in order.
func TestTooManySteps(t *testing.T) {
	for _, step := range steps(absolute(), wait(1), speed(0), api.Step{}, api.Step{Kind: api.StepMove, N: 1}) {
		s := slices.Repeat(steps(step), api.MaxSteps+1)
		fails(t, step, api.ErrLarge, withSteps(s)...)
		fails(t, step, api.ErrLarge, withOthers(s, -1, 0)...)
		fails(t, step, api.ErrLarge, withTwo(s, s)...)
		fails(t, step, api.ErrLarge, withTwo(s, steps(speed(0)))...)
		fails(t, step, api.ErrLarge, withTwo(sample(), s)...)
		fails(t, step, api.ErrKind, withTwo(steps(api.Step{}), s)...)
	}
}
