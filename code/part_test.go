package code_test

import (
	"math/rand"
	"slices"
	"testing"

	"beadlayer/api"
	"beadlayer/code"
)

// P8.5: the steps of two programs, with StepAbsolute between them if places are told relatively there.
func TestJoined(t *testing.T) {
	for _, c := range []struct{ a, b, want []api.Step }{
		{nil, nil, nil},
		{nil, sample(), sample()},
		{steps(speed(1)), nil, steps(speed(1))},
		{sample(), nil, append(sample(), absolute())},
		{sample(), sample(), slices.Concat(sample(), steps(absolute()), sample())},
		{sample(), steps(absolute(), move(1, 1)), append(sample(), absolute(), absolute(), move(1, 1))},
		{steps(relative(), move(1, 1), absolute()), steps(move(1, 1)), steps(relative(), move(1, 1), absolute(), move(1, 1))},
		{steps(move(1, 1)), steps(relative(), move(1, 1)), steps(move(1, 1), relative(), move(1, 1))},
	} {
		if l, e := code.Joined(c.a, c.b); e != api.OK || !slices.Equal(l, c.want) {
			t.Error(c.a, c.b, l, e)
		}
	}
}

// P8.5: the second one of two joined programs does what it does alone if it begins where the first one ends.
func TestRandomJoined(t *testing.T) {
	r := rand.New(rand.NewSource(10))
	for range 2000 {
		a, b := randomSteps(r, 10), randomSteps(r, 10)
		s, e := code.Joined(a, b)
		if e != api.OK {
			t.Fatal(a, b, e)
		}
		m := states(s)
		if !slices.Equal(m[:len(a)+1], states(a)) || !slices.Equal(s[len(s)-len(b):], b) {
			t.Fatal(a, b, s)
		}
		there := m[len(a)]
		there.Relative = false
		if m[len(s)-len(b)] != there || len(s) > len(a)+len(b)+1 {
			t.Fatal(a, b, s)
		}
	}
}

// P8.5: too many steps of two programs.
func TestTooManyJoined(t *testing.T) {
	half := slices.Repeat(steps(wait(1)), api.MaxSteps/2)
	if s, e := code.Joined(half, half); e != api.OK || len(s) != api.MaxSteps {
		t.Error(len(s), e)
	}
	one := append(slices.Clone(half), wait(1))
	fails(t, "one too many", api.ErrLarge, joined(half, one), joined(one, half))
	turned := slices.Clone(half)
	turned[7] = relative()
	fails(t, "one between", api.ErrLarge, joined(turned, half))
	if s, e := code.Joined(turned, half[1:]); e != api.OK || len(s) != api.MaxSteps {
		t.Error(len(s), e)
	}
	if s, e := code.Joined(half, turned); e != api.OK || len(s) != api.MaxSteps {
		t.Error(len(s), e)
	}
	fails(t, "one behind", api.ErrLarge, joined(slices.Repeat(steps(relative()), api.MaxSteps), nil))
	whole := slices.Repeat(steps(relative()), api.MaxSteps)
	fails(t, "the most", api.ErrLarge, joined(whole, whole))
	if s, e := code.Joined(nil, whole); e != api.OK || len(s) != api.MaxSteps {
		t.Error(len(s), e)
	}
}

// P8.5: the steps of a layer, and how the printer is at its beginning.
func TestLayer(t *testing.T) {
	two := steps(speed(5), heat(7), relative(), prints(1, 1, 1), layer(1), move(1, 0), tool(3), prints(1, 0, 4), layer(1), prints(0, 1, 2), absolute(), move(9, 9), wait(3), speed(8))
	for _, c := range []struct {
		s    []api.Step
		n    int
		want []api.Step
	}{
		{append(sample(), move(1, 0)), 1, steps(speed(100), move(15, 0), move(16, 0))},
		{sample(), 1, steps(speed(100), move(15, 0))},
		{steps(layer(0)), 1, steps(move(0, 0))},
		{steps(layer(5), layer(6), wait(1)), 1, steps(move(0, 0))},
		{steps(layer(5), layer(6), wait(1)), 2, steps(move(0, 0), wait(1))},
		{two, 1, steps(speed(5), heat(7), move(1, 1), move(2, 1), tool(3), prints(3, 1, 4))},
		{two, 2, steps(speed(5), heat(7), tool(3), move(3, 1), prints(3, 2, 2), move(9, 9), wait(3), speed(8))},
		{steps(heat(1), tool(1), speed(1), tool(2), layer(1)), 1, steps(speed(1), heat(1), tool(2), move(0, 0))},
		{steps(heat(1), tool(1), heat(0), tool(0), layer(1), heat(0)), 1, steps(move(0, 0), heat(0))},
		{steps(layer(1), speed(3), absolute(), relative(), layer(1), absolute(), relative(), move(-1, -1)), 2, steps(speed(3), move(0, 0), move(-1, -1))},
	} {
		if l, e := code.Layer(c.s, c.n); e != api.OK || !slices.Equal(l, c.want) {
			t.Error(c.s, c.n, l, e)
		}
	}
}

// P8.5: layers of random programs are pieces of their absolute form.
func TestRandomLayer(t *testing.T) {
	r := rand.New(rand.NewSource(11))
	for range 2000 {
		s := randomSteps(r, 30)
		a, _ := code.Absolute(s)
		m, begins := states(a), []int{}
		for i, x := range a {
			if x.Kind == api.StepLayer {
				begins = append(begins, i)
			}
		}
		ends := append(slices.Clone(begins), len(a))
		for n, begin := range begins {
			there := m[begin]
			var want []api.Step
			if there.Speed > 0 {
				want = append(want, speed(there.Speed))
			}
			if there.Heat > 0 {
				want = append(want, heat(there.Heat))
			}
			if there.Tool > 0 {
				want = append(want, tool(there.Tool))
			}
			want = append(append(want, move(there.X, there.Y)), a[begin+1:ends[n+1]]...)
			if l, e := code.Layer(s, n+1); e != api.OK || !slices.Equal(l, want) {
				t.Fatal(s, n, l, want, e)
			}
		}
		fails(t, s, api.ErrNone, layerOf(s, 0), layerOf(s, -1), layerOf(s, len(begins)+1), layerOf(s, least), layerOf(s, greatest))
	}
}

// P8.5: no such layer; a layer with places that cannot be told absolutely.
func TestWrongLayer(t *testing.T) {
	fails(t, "none", api.ErrNone, layerOf(nil, 1), layerOf(nil, 0), layerOf(steps(move(1, 1)), 1))
	away := steps(relative(), move(farther, 0), layer(1), move(1, 0), move(-1, 0), layer(1), move(-5, 0), layer(1), move(0, 1), move(5, 0), layer(1), layer(1), move(1, 0), layer(1), move(-2, 0))
	for n, want := range [][]api.Step{
		nil,
		steps(move(farther, 0), move(farther-5, 0)),
		steps(move(farther-5, 0), move(farther-5, 1), move(farther, 1)),
		steps(move(farther, 1)),
		nil,
		nil,
	} {
		if want == nil {
			fails(t, n+1, api.ErrArg, layerOf(away, n+1), inAbsolute(away))
		} else if l, e := code.Layer(away, n+1); e != api.OK || !slices.Equal(l, want) {
			t.Error(n+1, l, e)
		}
	}
	fails(t, "none, and too far", api.ErrNone, layerOf(away, 0), layerOf(away, 7))
	most := append(steps(speed(1), heat(1), tool(1), layer(1)), slices.Repeat(steps(wait(1)), api.MaxSteps-4)...)
	if l, e := code.Layer(most, 1); e != api.OK || len(l) != api.MaxSteps {
		t.Error(len(l), e)
	}
}
