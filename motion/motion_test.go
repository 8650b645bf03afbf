package motion_test

import (
	"math/rand"
	"slices"
	"testing"

	"beadlayer/api"
	"beadlayer/motion"
)

// wrongLegs are legs with each error of CheckLegs, at its bounds, and with several of them.
func wrongLegs() []struct {
	name string
	l    []api.Leg
	e    api.Errno
} {
	return []struct {
		name string
		l    []api.Leg
		e    api.Errno
	}{
		{"no legs", nil, api.ErrNone},
		{"too many legs", slices.Repeat(legs(1, 1), api.MaxLegs+1), api.ErrLarge},
		{"too many legs, without length", slices.Repeat(legs(0, 0), api.MaxLegs+1), api.ErrLarge},
		{"no length", legs(0, 1), api.ErrArg},
		{"a length below 0", legs(1, 1, -1, 1), api.ErrArg},
		{"the least length", legs(least, 1), api.ErrArg},
		{"too long", legs(api.MaxLeg+1, 1), api.ErrArg},
		{"the greatest length", legs(1, 1, 1, 1, greatest, 1), api.ErrArg},
		{"no limit", legs(1, 0), api.ErrArg},
		{"a limit below 0", legs(1, 1, 1, -1), api.ErrArg},
		{"the least limit", legs(1, least, 1, 1), api.ErrArg},
		{"too great a limit", legs(1, 1, 1, api.MaxSpeed+1), api.ErrArg},
		{"the greatest limit", legs(1, greatest), api.ErrArg},
	}
}

// P6.1: what is valid, at its bounds, and what is not.
func TestCheckLegs(t *testing.T) {
	for _, l := range [][]api.Leg{
		legs(1, 1),
		legs(api.MaxLeg, api.MaxSpeed),
		legs(1, api.MaxSpeed, api.MaxLeg, 1),
		slices.Repeat(legs(1, 1), api.MaxLegs),
	} {
		if e := motion.CheckLegs(l); e != api.OK {
			t.Errorf("%.100v %v", l, e)
		}
	}
	for _, c := range wrongLegs() {
		if e := motion.CheckLegs(c.l); e != c.e {
			t.Error(c.name, e)
		}
	}
}

// fails checks that calls return an error, and zero values with it.
func fails(t *testing.T, name any, e api.Errno, calls ...call) {
	t.Helper()
	for _, f := range calls {
		results, got := f.run()
		if got != e || slices.ContainsFunc(results, func(x any) bool { return !isZero(x) }) {
			t.Error(name, f.name, results, got)
		}
	}
}

// P6.1: all functions with legs return CheckLegs' error, before those of corners, of change, and their own.
func TestWrongLegs(t *testing.T) {
	for _, c := range wrongLegs() {
		for _, corners := range [][]int{make([]int, max(len(c.l), 1)-1), list(-1, -1, -1, -1)} {
			m := moves{c.l, corners, 0}
			fails(t, c.name, c.e, append(withoutChange(m, -1, 0), withChange(m, list(1))...)...)
		}
		if len(c.l) == 1 {
			fails(t, c.name, c.e, withLeg(0, 0, c.l[0], 1)...)
			fails(t, c.name, c.e, withLeg(-1, -1, c.l[0], 0)...)
		}
	}
}

// P6.1: then come the errors of corners.
func TestWrongCorners(t *testing.T) {
	three := legs(5, 5, 5, 5, 5, 5)
	for _, c := range []struct {
		l       []api.Leg
		corners []int
		e       api.Errno
	}{
		{legs(5, 5), list(1), api.ErrForm},
		{legs(5, 5), list(-1), api.ErrForm},
		{three, nil, api.ErrForm},
		{three, list(1), api.ErrForm},
		{three, list(-1), api.ErrForm},
		{three, list(1, 1, 1), api.ErrForm},
		{three, list(least, 1, 1), api.ErrForm},
		{three, list(-1, 0), api.ErrArg},
		{three, list(0, -1), api.ErrArg},
		{three, list(0, api.MaxSpeed+1), api.ErrArg},
		{three, list(least, 0), api.ErrArg},
		{three, list(0, greatest), api.ErrArg},
	} {
		for _, change := range []int{0, 1} {
			m := moves{c.l, c.corners, change}
			fails(t, c.corners, c.e, append(withoutChange(m, -1, 0), withChange(m, list(1))...)...)
		}
	}
	good := moves{three, list(0, api.MaxSpeed), 1}
	for _, f := range append(withoutChange(good, 1, 1), withChange(good, list(0, 0, 0, 0))...) {
		if _, e := f.run(); e != api.OK {
			t.Error(f.name, e)
		}
	}
}

// P6.1: then comes the error of change, before the functions' own ones.
func TestWrongChange(t *testing.T) {
	for _, change := range []int{least, -1, 0, api.MaxChange + 1, greatest} {
		m := moves{legs(5, 5, 5, 5), list(2), change}
		fails(t, change, api.ErrArg, withChange(m, nil)...)
		fails(t, change, api.ErrArg, withChange(m, list(0, 1, 0))...)
		fails(t, change, api.ErrArg, append(withLeg(0, 0, leg(5, 5), change), brake(1, change))...)
		fails(t, change, api.ErrArg, withLeg(0, 5, leg(1, 5), change)...)
	}
	for _, change := range []int{1, api.MaxChange} {
		m := moves{legs(5, 5, 5, 5), list(2), change}
		for _, f := range append(withChange(m, list(0, 1, 0)), append(withLeg(0, 0, leg(5, 5), change), brake(1, change))...) {
			if _, e := f.run(); e != api.OK {
				t.Error(f.name, change, e)
			}
		}
	}
}

// P6.4: a leg becomes two, with its limit between them.
func TestSplit(t *testing.T) {
	three, corners := legs(10, 7, 20, 8, 30, 9), list(1, 2)
	for _, c := range []struct {
		leg, at int
		l       []api.Leg
		corners []int
	}{
		{0, 1, legs(1, 7, 9, 7, 20, 8, 30, 9), list(7, 1, 2)},
		{0, 9, legs(9, 7, 1, 7, 20, 8, 30, 9), list(7, 1, 2)},
		{1, 5, legs(10, 7, 5, 8, 15, 8, 30, 9), list(1, 8, 2)},
		{2, 29, legs(10, 7, 20, 8, 29, 9, 1, 9), list(1, 2, 9)},
	} {
		l, k, e := motion.Split(three, corners, c.leg, c.at)
		if e != api.OK || !slices.Equal(l, c.l) || !slices.Equal(k, c.corners) {
			t.Error(c.leg, c.at, l, k, e)
		}
	}
	l, k, e := motion.Split(legs(2, api.MaxSpeed), nil, 0, 1)
	if e != api.OK || !slices.Equal(l, legs(1, api.MaxSpeed, 1, api.MaxSpeed)) || !slices.Equal(k, list(api.MaxSpeed)) {
		t.Error(l, k, e)
	}
}

// P6.4: the errors of Split, and the first one of several.
func TestWrongSplit(t *testing.T) {
	three, most := legs(1, 7, 20, 8, 30, 9), slices.Repeat(legs(5, 5), api.MaxLegs)
	for _, c := range []struct {
		l       []api.Leg
		leg, at int
		e       api.Errno
	}{
		{three, -1, 1, api.ErrNone},
		{three, 3, 1, api.ErrNone},
		{three, least, 0, api.ErrNone},
		{three, greatest, greatest, api.ErrNone},
		{three, 0, 1, api.ErrArg},
		{three, 0, 0, api.ErrArg},
		{three, 1, 0, api.ErrArg},
		{three, 1, -1, api.ErrArg},
		{three, 1, 20, api.ErrArg},
		{three, 2, 31, api.ErrArg},
		{three, 1, least, api.ErrArg},
		{three, 1, greatest, api.ErrArg},
		{most, api.MaxLegs, 5, api.ErrNone},
		{most, 7, 5, api.ErrArg},
		{most, 7, 4, api.ErrLarge},
		{most[1:], 7, 4, api.OK},
	} {
		l, k, e := motion.Split(c.l, make([]int, len(c.l)-1), c.leg, c.at)
		if e != c.e || e != api.OK && (len(l) > 0 || len(k) > 0) || e == api.OK && len(l) != api.MaxLegs {
			t.Error(c.leg, c.at, len(l), len(k), e)
		}
	}
}

// P6.4: a leg that is split makes no other speed greater; it could go on as before.
func TestSplitSpeeds(t *testing.T) {
	r := rand.New(rand.NewSource(1))
	for range 2000 {
		m := anyMoves(r)
		i := r.Intn(len(m.l))
		if m.l[i].Long == 1 {
			continue
		}
		at := 1 + r.Intn(m.l[i].Long-1)
		l, corners, e := motion.Split(m.l, m.corners, i, at)
		if e != api.OK {
			t.Fatal(m, i, at, e)
		}
		before, _ := motion.Speeds(m.l, m.corners, m.change)
		after, e := motion.Speeds(l, corners, m.change)
		if e != api.OK || len(after) != len(before)+1 {
			t.Fatal(m, i, at, after, e)
		}
		for k, speed := range slices.Delete(after, i+1, i+2) {
			if speed > before[k] {
				t.Fatal(m, i, at, before, after)
			}
		}
	}
}

// P6.4: legs and corners are turned round.
func TestBack(t *testing.T) {
	for _, c := range []struct {
		l           []api.Leg
		corners     []int
		back        []api.Leg
		backCorners []int
	}{
		{legs(3, 4), nil, legs(3, 4), nil},
		{legs(3, 4, 5, 6), list(7), legs(5, 6, 3, 4), list(7)},
		{legs(3, 4, 5, 6, 7, 8, 9, 10), list(1, 2, 3), legs(9, 10, 7, 8, 5, 6, 3, 4), list(3, 2, 1)},
	} {
		l, k, e := motion.Back(c.l, c.corners)
		if e != api.OK || !slices.Equal(l, c.back) || !slices.Equal(k, c.backCorners) {
			t.Error(c, l, k, e)
		}
	}
}

// P6.4: the speeds of the other direction are the same, turned round; so are the peaks and the times.
func TestBackSpeeds(t *testing.T) {
	r := rand.New(rand.NewSource(2))
	for range 2000 {
		m := anyMoves(r)
		l, corners, e := motion.Back(m.l, m.corners)
		if e != api.OK {
			t.Fatal(m, e)
		}
		for _, f := range []func([]api.Leg, []int, int) ([]int, api.Errno){motion.Speeds, motion.Peaks, motion.Times} {
			there, e := f(m.l, m.corners, m.change)
			back, again := f(l, corners, m.change)
			slices.Reverse(back)
			if e != api.OK || again != api.OK || !slices.Equal(there, back) {
				t.Fatal(m, there, back, e, again)
			}
		}
	}
}
