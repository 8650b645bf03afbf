package code_test

import (
	"math/rand"
	"slices"
	"testing"

	"beadlayer/api"
	"beadlayer/code"
)

// P8.4: the steps at which something is wrong, and the first reason for each.
func TestFaults(t *testing.T) {
	const (
		arg   = api.ErrArg
		state = api.ErrState
		rule  = api.ErrRule
		order = api.ErrOrder
	)
	for _, c := range []struct {
		s       []api.Step
		coldest int
		at      []int
		why     []api.Errno
	}{
		{nil, 0, nil, nil},
		{nil, api.MaxHeat, nil, nil},
		{sample(), 0, nil, nil},
		{sample(), 1, list(3), []api.Errno{rule}},
		{append(steps(move(1, 0)), sample()...), 200, list(0, 4), []api.Errno{state, rule}},
		// places: those after all steps
		{steps(speed(1), move(far, -far), move(-far, far), layer(api.MaxZ)), 0, nil, nil},
		{steps(speed(1), move(far+1, 0), speed(2), wait(1), absolute(), relative(), heat(1), tool(1), layer(1), prints(0, 0, 1), move(-1, 0), wait(1)), 500, list(1, 2, 3, 4, 5, 6, 7, 8, 9), slices.Repeat([]api.Errno{arg}, 9)},
		{steps(speed(1), move(-far-1, 0), move(0, far+1), move(0, -far-1), move(0, 0)), 0, list(1, 2, 3), []api.Errno{arg, arg, arg}},
		{steps(speed(1), prints(-far-1, 0, 1), prints(0, far+1, 0)), 0, list(1, 2), []api.Errno{arg, arg}},
		{steps(layer(-1), wait(1), layer(0), relative(), layer(api.MaxZ), layer(1), layer(-1)), 0, list(0, 1, 5, 6), []api.Errno{arg, arg, arg, order}},
		{steps(layer(5), layer(-1)), 0, list(1), []api.Errno{arg}},
		{steps(relative(), layer(api.MaxZ), layer(api.MaxZ), layer(-1), layer(1-api.MaxZ)), 0, list(2, 3, 4), []api.Errno{arg, arg, order}},
		{steps(move(far+1, 0), move(0, 0)), 0, list(0, 1), []api.Errno{arg, state}},
		// no speed
		{steps(move(0, 0), prints(0, 0, 0), prints(0, 0, 1), layer(1), wait(1), speed(1), move(0, 0), prints(0, 0, 1)), 0, list(0, 1, 2), []api.Errno{state, state, state}},
		{steps(prints(1, 0, 1), heat(5), prints(1, 0, 1)), 5, list(0, 2), []api.Errno{state, state}},
		// too cold
		{steps(speed(1), heat(199), prints(1, 0, 1), prints(1, 0, 0), move(0, 0), layer(1), heat(200), prints(2, 0, 1), heat(201), prints(3, 0, 1), heat(0), prints(3, 0, 1)), 200, list(2, 11), []api.Errno{rule, rule}},
		{steps(speed(1), prints(1, 0, 1)), 0, nil, nil},
		{steps(speed(1), heat(api.MaxHeat-1), prints(1, 0, 1), heat(api.MaxHeat), prints(1, 0, 1)), api.MaxHeat, list(2), []api.Errno{rule}},
		// less height
		{steps(layer(5), layer(5), layer(4), layer(4), relative(), layer(0), layer(1), layer(-1), absolute(), layer(4)), 0, list(2, 7), []api.Errno{order, order}},
	} {
		if at, why, e := code.Faults(c.s, c.coldest); e != api.OK || !slices.Equal(at, c.at) || !slices.Equal(why, c.why) {
			t.Error(c.s, c.coldest, at, why, e)
		}
	}
	for _, coldest := range list(least, -1, api.MaxHeat+1, greatest) {
		fails(t, coldest, api.ErrArg, faults(nil, coldest), faults(sample(), coldest), faults(steps(layer(-1)), coldest))
	}
}

// faultOf is what P8.4 says of a step.
func faultOf(s api.Step, m, next api.Machine, coldest int) api.Errno {
	prints := s.Kind == api.StepPrint
	if next.X > far || next.X < -far || next.Y > far || next.Y < -far || next.Z < 0 || next.Z > api.MaxZ {
		return api.ErrArg
	}
	if (prints || s.Kind == api.StepMove) && m.Speed == 0 {
		return api.ErrState
	}
	if prints && s.Flow > 0 && m.Heat < coldest {
		return api.ErrRule
	}
	if s.Kind == api.StepLayer && next.Z < m.Z {
		return api.ErrOrder
	}
	return api.OK
}

// randomFar are random steps, some of which are far away.
func randomFar(r *rand.Rand) []api.Step {
	s := randomSteps(r, 30)
	for i := range s {
		switch {
		case r.Intn(8) > 0:
		case s[i].Kind == api.StepMove || s[i].Kind == api.StepPrint:
			s[i].X, s[i].Y = (r.Intn(5)-2)*far, (r.Intn(5)-2)*far
		case s[i].Kind == api.StepLayer:
			s[i].Z = (r.Intn(3) - 1) * api.MaxZ
		}
	}
	return s
}

// P8.4: Faults of random programs.
func TestRandomFaults(t *testing.T) {
	r := rand.New(rand.NewSource(5))
	found := map[api.Errno]int{}
	for range 3000 {
		s, coldest := randomFar(r), r.Intn(4)
		var at []int
		var why []api.Errno
		m := states(s)
		for i, x := range s {
			e := faultOf(x, m[i], m[i+1], coldest)
			found[e]++
			if e != api.OK {
				at, why = append(at, i), append(why, e)
			}
		}
		if l, w, e := code.Faults(s, coldest); e != api.OK || !slices.Equal(l, at) || !slices.Equal(w, why) {
			t.Fatal(s, coldest, l, w, e)
		}
	}
	if len(found) != 5 || found[api.ErrOrder] < 300 || found[api.ErrRule] < 300 {
		t.Error(found)
	}
}

// P8.4: distances divided by the speed, each rounded up, and waits.
func TestTime(t *testing.T) {
	for _, c := range []struct {
		s    []api.Step
		want int
	}{
		{nil, 0},
		{sample(), 170},
		{steps(move(5, 5), layer(3), prints(9, 9, 1)), 0},
		{steps(wait(5), wait(0), wait(api.MaxWait)), api.MaxWait + 5},
		{steps(speed(1_000), move(3, -4)), 4},
		{steps(speed(1_000), move(-4, 3), prints(0, 0, 0), prints(0, 0, 9)), 8},
		{steps(speed(999), move(1, 0), move(1, 0), move(2, 1)), 4},
		{steps(speed(1_001), move(1, 0), prints(2, 0, 1), layer(1), move(2, 0)), 3},
		{steps(speed(7), layer(5), layer(3), layer(3)), 715 + 286},
		{steps(speed(3_000), move(1, 0), move(4, 0), move(8, 0)), 1 + 1 + 2},
		{steps(move(7, 0), speed(1_000), move(9, 0), speed(500), move(11, 0), heat(7), tool(2), wait(9)), 2 + 4 + 9},
		{steps(speed(1_000), relative(), move(2, 0), move(2, 1), absolute(), move(2, 0), layer(1)), 2 + 2 + 2 + 1},
		{steps(speed(api.MaxSpeed), move(1, 0), move(101, 0), move(202, 0)), 1 + 1 + 2},
		{append(steps(speed(1)), slices.Repeat(steps(move(farther, 0), move(-farther, 0)), 2_000)...), 1_000 * (3_999*2*farther + farther)},
		{append(steps(speed(1)), slices.Repeat(steps(layer(api.MaxZ), layer(-api.MaxZ)), 2_000)...), 1_000 * (3_999*2*api.MaxZ + api.MaxZ)},
		{slices.Repeat(steps(wait(api.MaxWait)), api.MaxSteps), api.MaxSteps * api.MaxWait},
	} {
		if n, e := code.Time(c.s); e != api.OK || n != c.want {
			t.Errorf("%.100v %v %v", c.s, n, e)
		}
	}
}

func apart(a, b int) int { return max(a-b, b-a) }

// P8.4: Time of random programs.
func TestRandomTime(t *testing.T) {
	r := rand.New(rand.NewSource(6))
	for range 2000 {
		s, sum := randomFar(r), 0
		m := states(s)
		for i, x := range s {
			way := 0
			switch x.Kind {
			case api.StepWait:
				sum += x.N
			case api.StepMove, api.StepPrint:
				way = max(apart(m[i].X, m[i+1].X), apart(m[i].Y, m[i+1].Y))
			case api.StepLayer:
				way = apart(m[i].Z, m[i+1].Z)
			}
			if m[i].Speed > 0 {
				sum += (1_000*way + m[i].Speed - 1) / m[i].Speed
			}
		}
		if n, e := code.Time(s); e != api.OK || n != sum {
			t.Fatal(s, n, sum, e)
		}
	}
}
