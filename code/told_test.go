package code_test

import (
	"math/rand"
	"slices"
	"testing"

	"beadlayer/api"
	"beadlayer/code"
)

// P8.3: the absolute and the relative form.
func TestAbsoluteAndRelative(t *testing.T) {
	for _, c := range []struct{ s, absolute, relative []api.Step }{
		{nil, nil, nil},
		{steps(absolute(), relative(), absolute()), nil, nil},
		{sample(), steps(speed(100), move(10, 0), prints(15, 0, 7), layer(2)), steps(relative(), speed(100), move(10, 0), prints(5, 0, 7), layer(2))},
		{steps(wait(1)), steps(wait(1)), steps(relative(), wait(1))},
		{steps(absolute(), tool(3), relative()), steps(tool(3)), steps(relative(), tool(3))},
		{
			steps(move(3, -4), relative(), move(1, 1), prints(-9, 0, 2), wait(5), absolute(), heat(7), prints(1, 2, 3), move(0, 0)),
			steps(move(3, -4), move(4, -3), prints(-5, -3, 2), wait(5), heat(7), prints(1, 2, 3), move(0, 0)),
			steps(relative(), move(3, -4), move(1, 1), prints(-9, 0, 2), wait(5), heat(7), prints(6, 5, 3), move(-1, -2)),
		},
		{
			steps(layer(5), layer(3), relative(), layer(-7), layer(1), layer(0), absolute(), layer(1), layer(0)),
			steps(layer(5), layer(3), layer(-4), layer(-3), layer(-3), layer(1), layer(0)),
			steps(relative(), layer(5), layer(-2), layer(-7), layer(1), layer(0), layer(4), layer(-1)),
		},
		{
			steps(move(1, 1), move(1, 1), prints(1, 1, 0)),
			steps(move(1, 1), move(1, 1), prints(1, 1, 0)),
			steps(relative(), move(1, 1), move(0, 0), prints(0, 0, 0)),
		},
	} {
		if l, e := code.Absolute(c.s); e != api.OK || !slices.Equal(l, c.absolute) {
			t.Error(c.s, l, e)
		}
		if l, e := code.Relative(c.s); e != api.OK || !slices.Equal(l, c.relative) {
			t.Error(c.s, l, e)
		}
	}
}

// P8.3: both forms do what a program does, and are what the one of the other one is.
func TestRandomForms(t *testing.T) {
	r := rand.New(rand.NewSource(3))
	for range 3000 {
		s := randomSteps(r, 30)
		a, e := code.Absolute(s)
		b, again := code.Relative(s)
		if e != api.OK || again != api.OK {
			t.Fatal(s, e, again)
		}
		told := slices.DeleteFunc(slices.Clone(s), func(x api.Step) bool { return x.Kind == api.StepAbsolute || x.Kind == api.StepRelative })
		if len(a) != len(told) || len(told) > 0 && (len(b) != len(a)+1 || b[0] != relative()) || len(told) == 0 && len(b) > 0 {
			t.Fatal(s, a, b)
		}
		for i, x := range told {
			if a[i].Kind != x.Kind || a[i].N != x.N || a[i].Flow != x.Flow || b[i+1].Kind != x.Kind || b[i+1].N != x.N || b[i+1].Flow != x.Flow {
				t.Fatal(s, a, b)
			}
		}
		for _, form := range [][]api.Step{a, b} {
			if is, e := code.Same(s, form); e != api.OK || !is {
				t.Fatal(s, form, is, e)
			}
			if l, e := code.Absolute(form); e != api.OK || !slices.Equal(l, a) {
				t.Fatal(s, a, l, e)
			}
			if l, e := code.Relative(form); e != api.OK || !slices.Equal(l, b) {
				t.Fatal(s, b, l, e)
			}
		}
	}
}

// P8.3: places that cannot be told in a form; too many steps.
func TestWrongForms(t *testing.T) {
	high := steps(relative(), layer(api.MaxZ), layer(1))
	wide := steps(relative(), move(farther, 0), prints(1, 0, 1))
	low := steps(relative(), prints(0, -farther, 1), move(0, -1))
	for _, s := range [][]api.Step{high, wide, low, append(high, absolute(), layer(1)), append(wide, move(-1, 0)), append(low, relative(), move(0, 2))} {
		fails(t, s, api.ErrArg, inAbsolute(s), short(s))
		if l, e := code.Relative(s); e != api.OK || l[0] != relative() {
			t.Error(s, l, e)
		}
	}
	for _, s := range [][]api.Step{
		steps(move(farther, 0), move(-1, 0)),
		steps(prints(0, -farther, 1), move(0, 1)),
		steps(layer(1), layer(-api.MaxZ)),
	} {
		fails(t, s, api.ErrArg, inRelative(s))
		if l, e := code.Absolute(s); e != api.OK || !slices.Equal(l, s) {
			t.Error(s, l, e)
		}
	}
	edge := steps(move(farther, -farther), move(0, 0), prints(-farther, farther, 0), layer(api.MaxZ), layer(0), layer(-api.MaxZ))
	want := steps(relative(), move(farther, -farther), move(-farther, farther), prints(-farther, farther, 0), layer(api.MaxZ), layer(-api.MaxZ), layer(-api.MaxZ))
	if l, e := code.Relative(edge); e != api.OK || !slices.Equal(l, want) {
		t.Error(l, e)
	}
	if l, e := code.Absolute(want); e != api.OK || !slices.Equal(l, edge) {
		t.Error(l, e)
	}
	most := slices.Repeat(steps(wait(1)), api.MaxSteps)
	if l, e := code.Absolute(most); e != api.OK || !slices.Equal(l, most) {
		t.Error(len(l), e)
	}
	fails(t, "one too many", api.ErrLarge, inRelative(most))
	most[7] = absolute()
	if l, e := code.Relative(most); e != api.OK || len(l) != api.MaxSteps {
		t.Error(len(l), e)
	}
	both := slices.Repeat(steps(move(farther, 0), move(-farther, 0)), api.MaxSteps/2)
	fails(t, "one too many, and too far", api.ErrLarge, inRelative(both))
	fails(t, "too far", api.ErrArg, inRelative(both[1:]))
	if l, e := code.Relative(slices.Repeat(steps(relative()), api.MaxSteps)); e != api.OK || len(l) > 0 {
		t.Error(l, e)
	}
}

// P8.3: what changes nothing is left out, again and again.
func TestShort(t *testing.T) {
	for _, c := range []struct{ s, want []api.Step }{
		{nil, nil},
		{sample(), steps(speed(100), move(10, 0), prints(15, 0, 7), layer(2))},
		{steps(relative(), absolute(), move(0, 0), layer(0), prints(0, 0, 0), heat(0), tool(0), wait(0)), nil},
		{steps(wait(1), wait(1)), steps(wait(1), wait(1))},
		{steps(prints(0, 0, 1), prints(0, 0, 1)), steps(prints(0, 0, 1), prints(0, 0, 1))},
		{steps(prints(1, 0, 0), prints(2, 0, 0)), steps(prints(1, 0, 0), prints(2, 0, 0))},
		{steps(prints(1, 0, 0), prints(1, 0, 0)), steps(prints(1, 0, 0))},
		{steps(speed(1), speed(2), heat(1), heat(2), tool(1), tool(2)), steps(speed(1), speed(2), heat(1), heat(2), tool(1), tool(2))},
		{steps(speed(2), speed(2), heat(2), heat(2), tool(2), tool(2)), steps(speed(2), heat(2), tool(2))},
		{steps(speed(2), heat(2), speed(2), tool(2), heat(2), speed(1)), steps(speed(2), heat(2), tool(2), speed(1))},
		{steps(heat(2), heat(0), tool(1), tool(0)), steps(heat(2), heat(0), tool(1), tool(0))},
		{steps(move(1, 0), move(2, 0), move(3, 0)), steps(move(3, 0))},
		{steps(layer(1), layer(3), layer(2)), steps(layer(2))},
		{steps(move(1, 0), layer(1), move(2, 0), layer(2)), steps(move(1, 0), layer(1), move(2, 0), layer(2))},
		{steps(move(1, 0), move(0, 0)), nil},
		{steps(layer(1), layer(0), move(1, 0)), steps(move(1, 0))},
		{steps(move(1, 0), wait(0), move(2, 0)), steps(move(2, 0))},
		{steps(move(1, 0), wait(1), move(2, 0)), steps(move(1, 0), wait(1), move(2, 0))},
		{steps(move(1, 0), speed(1), move(2, 0)), steps(move(1, 0), speed(1), move(2, 0))},
		{steps(move(1, 0), prints(1, 0, 0), layer(0), tool(0), move(2, 0)), steps(move(2, 0))},
		{steps(relative(), move(1, 0), absolute(), relative(), move(1, 0)), steps(move(2, 0))},
		{steps(relative(), move(1, 0), prints(0, 0, 0), layer(2), layer(0), layer(-2)), steps(move(1, 0))},
		{steps(move(1, 0), layer(2), layer(0), move(2, 0)), steps(move(2, 0))},
		{steps(layer(1), move(1, 0), move(0, 0), layer(2)), steps(layer(2))},
		{steps(move(1, 0), layer(1), move(2, 0), layer(2), layer(1), move(1, 0), layer(0), move(0, 0)), nil},
		{steps(move(1, 0), layer(1), move(2, 0), layer(2), layer(1), move(1, 0), layer(0), move(0, 1)), steps(move(0, 1))},
	} {
		if l, e := code.Short(c.s); e != api.OK || !slices.Equal(l, c.want) {
			t.Error(c.s, l, e)
		}
	}
}

// canGo tells whether a step of an absolute form can be left out.
func canGo(s []api.Step, i int) bool {
	if all := states(s); all[i] == all[i+1] && (s[i].Kind != api.StepWait || s[i].N == 0) {
		return true
	}
	return i+1 < len(s) && s[i].Kind == s[i+1].Kind && (s[i].Kind == api.StepMove || s[i].Kind == api.StepLayer)
}

// P8.3: a short form is the same in whatever order single steps are left out; it ends as the program does, and is not longer.
func TestRandomShort(t *testing.T) {
	r := rand.New(rand.NewSource(4))
	rounds := 0
	for range 3000 {
		s := randomSteps(r, 30)
		if r.Intn(2) == 0 {
			s = slices.DeleteFunc(s, func(x api.Step) bool { return x.Kind > api.StepLayer })
		}
		want, _ := code.Absolute(s)
		for again := true; again; {
			again = false
			for _, i := range r.Perm(len(want)) {
				if canGo(want, i) {
					want, again = slices.Delete(want, i, i+1), true
					rounds++
					break
				}
			}
		}
		l, e := code.Short(s)
		if e != api.OK || !slices.Equal(l, want) || len(l) > len(s) {
			t.Fatal(s, l, want, e)
		}
		m, _ := code.Last(s)
		m.Relative = false
		if end, e := code.Last(l); e != api.OK || end != m {
			t.Fatal(s, l, end, e)
		}
		if twice, e := code.Short(l); e != api.OK || !slices.Equal(twice, l) {
			t.Fatal(s, l, twice, e)
		}
	}
	if rounds < 5_000 {
		t.Error(rounds)
	}
}

// P8.3: a program of which all steps can be left out, but only few at a time.
func TestLongShort(t *testing.T) {
	var there, back []api.Step
	for i := range api.MaxSteps / 4 {
		there = append(there, move(i+1, 0), layer(i+1))
		back = append(back, move(i, 0), layer(i))
	}
	slices.Reverse(back)
	if l, e := code.Short(append(there, back...)); e != api.OK || len(l) > 0 {
		t.Error(len(l), e)
	}
}
