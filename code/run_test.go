package code_test

import (
	"math/rand"
	"slices"
	"testing"

	"beadlayer/api"
	"beadlayer/code"
)

// P8.2: the status after each step, and at the end.
func TestRun(t *testing.T) {
	for _, c := range []struct {
		s    []api.Step
		want []api.Machine
	}{
		{nil, nil},
		{sample(), []api.Machine{
			{Speed: 100},
			{Speed: 100, Relative: true},
			{X: 10, Speed: 100, Relative: true},
			{X: 15, Speed: 100, Flow: 7, Relative: true},
			{X: 15, Z: 2, Speed: 100, Flow: 7, Relative: true},
		}},
		{steps(move(3, -4), relative(), move(1, 1), prints(-9, 0, 2), absolute(), prints(1, 2, 3), move(0, 0)), []api.Machine{
			{X: 3, Y: -4}, {X: 3, Y: -4, Relative: true}, {X: 4, Y: -3, Relative: true}, {X: -5, Y: -3, Flow: 2, Relative: true},
			{X: -5, Y: -3, Flow: 2}, {X: 1, Y: 2, Flow: 5}, {Flow: 5},
		}},
		{steps(layer(5), layer(3), relative(), layer(-7), layer(1), absolute(), layer(1)), []api.Machine{
			{Z: 5}, {Z: 3}, {Z: 3, Relative: true}, {Z: -4, Relative: true}, {Z: -3, Relative: true}, {Z: -3}, {Z: 1},
		}},
		{steps(heat(200), tool(2), speed(7), wait(9), heat(0), tool(0), speed(8)), []api.Machine{
			{Heat: 200}, {Heat: 200, Tool: 2}, {Heat: 200, Tool: 2, Speed: 7}, {Heat: 200, Tool: 2, Speed: 7}, {Tool: 2, Speed: 7}, {Speed: 7}, {Speed: 8},
		}},
		{steps(relative(), relative(), move(farther, farther), move(farther, 0), layer(-api.MaxZ), layer(-api.MaxZ)), []api.Machine{
			{Relative: true}, {Relative: true}, {X: farther, Y: farther, Relative: true}, {X: 2 * farther, Y: farther, Relative: true},
			{X: 2 * farther, Y: farther, Z: -api.MaxZ, Relative: true}, {X: 2 * farther, Y: farther, Z: -2 * api.MaxZ, Relative: true},
		}},
	} {
		if l, e := code.Run(c.s); e != api.OK || !slices.Equal(l, c.want) {
			t.Error(c.s, l, e)
		}
		last := append([]api.Machine{{}}, c.want...)[len(c.want)]
		if m, e := code.Last(c.s); e != api.OK || m != last {
			t.Error(c.s, m, e)
		}
	}
}

// P8.2: Run and Last of random programs, and of the longest ways.
func TestRandomRun(t *testing.T) {
	r := rand.New(rand.NewSource(1))
	for range 2000 {
		s := randomSteps(r, 40)
		want := states(s)
		if l, e := code.Run(s); e != api.OK || !slices.Equal(l, want[1:]) {
			t.Fatal(s, l, e)
		}
		if m, e := code.Last(s); e != api.OK || m != want[len(s)] {
			t.Fatal(s, m, e)
		}
	}
	s := slices.Repeat(steps(prints(farther, -farther, api.MaxFlow)), api.MaxSteps)
	s[0] = relative()
	const ways = api.MaxSteps - 1
	if m, e := code.Last(s); e != api.OK || m != (api.Machine{X: ways * farther, Y: -ways * farther, Flow: ways * api.MaxFlow, Relative: true}) {
		t.Error(m, e)
	}
	s = slices.Repeat(steps(layer(-api.MaxZ)), api.MaxSteps)
	s[0] = relative()
	if m, e := code.Last(s); e != api.OK || m != (api.Machine{Z: -ways * api.MaxZ, Relative: true}) {
		t.Error(m, e)
	}
}

// P8.2: whether two programs do the same, whichever comes first.
func TestSame(t *testing.T) {
	for _, c := range []struct {
		a, b []api.Step
		want bool
	}{
		{nil, nil, true},
		{sample(), sample(), true},
		{sample(), steps(speed(100), move(10, 0), prints(15, 0, 7), layer(2)), true},
		{sample(), steps(speed(100), move(10, 0), prints(15, 0, 7), layer(3)), false},
		{nil, steps(relative(), absolute(), relative()), true},
		{nil, steps(move(0, 0), layer(0), prints(0, 0, 0), heat(0), tool(0), wait(0)), true},
		{nil, steps(move(1, 0)), false},
		{nil, steps(move(1, 0), move(0, 0)), false},
		{steps(move(1, 0)), steps(move(0, 0), move(1, 0), move(1, 0)), true},
		{steps(move(1, 0)), steps(move(0, 1)), false},
		{steps(move(1, 0)), steps(move(2, 0), move(1, 0)), false},
		{steps(move(1, 0), move(2, 0)), steps(move(1, 0), relative(), move(1, 0), move(0, 0)), true},
		{steps(move(1, 0), move(0, 0), move(1, 0)), steps(move(1, 0)), false},
		{steps(move(1, 0), move(2, 0), move(3, 0)), steps(move(1, 0), move(3, 0), move(2, 0)), false},
		{steps(prints(1, 0, 0)), steps(move(1, 0)), true},
		{steps(prints(1, 0, 1)), steps(move(1, 0)), false},
		{steps(prints(1, 0, 1), prints(2, 0, 1)), steps(prints(1, 0, 1), prints(2, 0, 2)), false},
		{steps(layer(1)), steps(layer(2)), false},
		{steps(speed(1), heat(1)), steps(heat(1), speed(1)), false},
		{steps(speed(1)), steps(speed(2)), false},
		{steps(heat(1)), steps(heat(2)), false},
		{steps(tool(1)), steps(tool(2)), false},
		{steps(speed(3), speed(3)), steps(speed(3)), true},
		// the waits before, between and after what changes
		{steps(wait(3), wait(4)), steps(wait(7)), true},
		{steps(wait(3)), steps(wait(4)), false},
		{nil, steps(wait(1)), false},
		{steps(wait(3), move(1, 0), wait(4)), steps(relative(), wait(1), wait(2), move(1, 0), wait(0), move(0, 0), wait(4)), true},
		{steps(wait(3), move(1, 0), wait(4)), steps(wait(4), move(1, 0), wait(3)), false},
		{steps(wait(3), move(1, 0), wait(4)), steps(wait(3), move(1, 0), wait(5)), false},
		{steps(move(1, 0), wait(4), move(2, 0)), steps(move(1, 0), wait(1), move(1, 0), wait(3), move(2, 0)), true},
		{steps(move(1, 0), wait(4), move(2, 0)), steps(move(1, 0), move(2, 0), wait(4)), false},
		{steps(move(1, 0), move(2, 0)), steps(move(1, 0), wait(4), move(2, 0)), false},
	} {
		if is, e := code.Same(c.a, c.b); e != api.OK || is != c.want {
			t.Error(c.a, c.b, is, e)
		}
		if is, e := code.Same(c.b, c.a); e != api.OK || is != c.want {
			t.Error(c.b, c.a, is, e)
		}
	}
}

// doing is what Same compares: for each wait unit of a status one entry, and one for the status itself.
func doing(s []api.Step) []api.Machine {
	all := []api.Machine{{}}
	for i, m := range states(s)[1:] {
		m.Relative = false
		last := all[len(all)-1]
		if last.Relative = false; m != last {
			all = append(all, m)
		}
		if s[i].Kind == api.StepWait {
			m.Relative = true // marks a unit of time
			all = append(all, slices.Repeat([]api.Machine{m}, s[i].N)...)
		}
	}
	return all
}

// P8.2: Same agrees with what random programs do step by step.
func TestRandomSame(t *testing.T) {
	r := rand.New(rand.NewSource(2))
	found := map[bool]int{}
	for range 5000 {
		a := randomSteps(r, 8)
		b := slices.Clone(a)
		for range r.Intn(4) {
			i := r.Intn(len(b) + 1)
			b = slices.Insert(b, i, randomStep(r))
		}
		want := slices.Equal(doing(a), doing(b))
		if is, e := code.Same(a, b); e != api.OK || is != want {
			t.Fatal(a, b, is, e)
		}
		if len(a) != len(b) {
			found[want]++
		}
	}
	if found[true] < 300 || found[false] < 300 {
		t.Error(found)
	}
}
