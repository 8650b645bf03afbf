package motion_test

import (
	"math/rand"
	"slices"
	"testing"

	"beadlayer/api"
	"beadlayer/motion"
)

// P6.2: speeds that can be told by hand.
func TestSpeeds(t *testing.T) {
	for _, c := range []struct {
		name string
		m    moves
		v    []int
	}{
		{"one leg", moves{legs(200, 100), nil, 50}, list(0, 0)},
		{"corners are the slowest", moves{legs(1000, 90, 1000, 90, 1000, 90), list(60, 70), 50}, list(0, 60, 70, 0)},
		{"the leg before is the slowest", moves{legs(1000, 50, 1000, 90), list(80), 50}, list(0, 50, 0)},
		{"the leg behind is the slowest", moves{legs(1000, 90, 1000, 50), list(80), 50}, list(0, 50, 0)},
		{"a corner where all stop", moves{legs(1000, 90, 1000, 90), list(0), 50}, list(0, 0, 0)},
		{"faster and faster, then slower", moves{legs(1, 99, 1, 99, 1, 99, 1, 99), list(99, 99, 99), 8}, list(0, 4, 5, 4, 0)},
		{"the first leg is short", moves{legs(2, 99, 500, 99), list(99), 8}, list(0, 5, 0)},
		{"the last leg is short", moves{legs(500, 99, 2, 99), list(99), 8}, list(0, 5, 0)},
		{"a slow corner is felt before and behind", moves{legs(500, 99, 2, 99, 2, 99, 500, 99), list(99, 3, 99), 8}, list(0, 6, 3, 6, 0)},
		{"the roots are rounded down", moves{legs(1, 9, 1, 9, 9, 9), list(9, 9), 1}, list(0, 1, 1, 0)},
		{"the roots are whole", moves{legs(1, 9, 6, 9, 9, 9), list(9, 9), 2}, list(0, 2, 5, 0)},
		{"a micrometre less", moves{legs(1, 9, 5, 9, 9, 9), list(9, 9), 2}, list(0, 2, 4, 0)},
		{"no speed but 0", moves{legs(9, 1, 9, 1), list(0), 1}, list(0, 0, 0)},
		{"the greatest", moves{legs(api.MaxLeg, api.MaxSpeed, api.MaxLeg, api.MaxSpeed), list(api.MaxSpeed), api.MaxChange}, list(0, api.MaxSpeed, 0)},
		{"the greatest speed is just reached", moves{legs(500, api.MaxSpeed, 500, api.MaxSpeed), list(api.MaxSpeed), api.MaxChange}, list(0, api.MaxSpeed, 0)},
		{"the greatest speed is just not reached", moves{legs(500, api.MaxSpeed, 499, api.MaxSpeed), list(api.MaxSpeed), api.MaxChange}, list(0, 99_899, 0)},
	} {
		v, e := motion.Speeds(c.m.l, c.m.corners, c.m.change)
		if e != api.OK || !slices.Equal(v, c.v) {
			t.Error(c.name, v, e)
		}
	}
}

// lists are all lists of n speeds up to most.
func lists(n, most int) [][]int {
	if n == 0 {
		return [][]int{nil}
	}
	var all [][]int
	for _, some := range lists(n-1, most) {
		for speed := range most + 1 {
			all = append(all, append(slices.Clone(some), speed))
		}
	}
	return all
}

// P6.2: of all ways to keep the limits, none has a greater speed anywhere.
func TestSpeedsAreTheGreatest(t *testing.T) {
	r := rand.New(rand.NewSource(4))
	for range 300 {
		m := randomMoves(r, 1+r.Intn(4), 4, 7, 4)
		most := make([]int, len(m.l)+1)
		for _, between := range lists(len(m.l)-1, 8) {
			v := slices.Concat(list(0), between, list(0))
			kept, e := motion.Kept(m.l, m.corners, v, m.change)
			if e != api.OK || kept != m.keeps(v) {
				t.Fatal(m, v, kept, e)
			}
			for i, speed := range v {
				if kept && speed > most[i] {
					most[i] = speed
				}
			}
		}
		v, e := motion.Speeds(m.l, m.corners, m.change)
		if e != api.OK || !slices.Equal(v, most) {
			t.Fatal(m, v, most, e)
		}
	}
}

// P6.2: speeds of any size, found in another way.
func TestRandomSpeeds(t *testing.T) {
	r := rand.New(rand.NewSource(5))
	for range 2000 {
		m := anyMoves(r)
		v, e := motion.Speeds(m.l, m.corners, m.change)
		if e != api.OK || !m.keeps(v) || !slices.Equal(v, m.fastest()) {
			t.Fatal(m, v, m.fastest(), e)
		}
	}
}

// P6.2: with more change, or greater limits, no speed is less.
func TestGreaterLimits(t *testing.T) {
	r := rand.New(rand.NewSource(6))
	for range 2000 {
		m := anyMoves(r)
		before, _ := motion.Speeds(m.l, m.corners, m.change)
		switch i := r.Intn(len(m.l)); r.Intn(4) {
		case 0:
			m.change += r.Intn(api.MaxChange - m.change + 1)
		case 1:
			m.l[i].Limit += r.Intn(api.MaxSpeed - m.l[i].Limit + 1)
		case 2:
			m.l[i].Long += r.Intn(api.MaxLeg - m.l[i].Long + 1)
		default:
			for k, corner := range m.corners {
				m.corners[k] += r.Intn(api.MaxSpeed - corner + 1)
			}
		}
		after, e := motion.Speeds(m.l, m.corners, m.change)
		if e != api.OK || len(after) != len(before) {
			t.Fatal(m, after, e)
		}
		for i, speed := range before {
			if after[i] < speed {
				t.Fatal(m, before, after)
			}
		}
	}
}

// P6.2: each limit, just kept and just not.
func TestKept(t *testing.T) {
	m := moves{legs(100, 100, 50, 50, 8, 100, 90, 30), list(60, 40, 99), 50}
	for _, c := range []struct {
		name string
		v    []int
		kept bool
	}{
		{"all 0", list(0, 0, 0, 0, 0), true},
		{"the greatest", list(0, 50, 40, 30, 0), true},
		{"the first one is not 0", list(1, 0, 0, 0, 0), false},
		{"the last one is not 0", list(0, 0, 0, 0, 1), false},
		{"the first one is below 0", list(-1, 0, 0, 0, 0), false},
		{"one is below 0", list(0, 50, -1, 30, 0), false},
		{"the last one is below 0", list(0, 0, 0, 0, -1), false},
		{"above the limit of the leg behind", list(0, 51, 40, 30, 0), false},
		{"above the corner", list(0, 50, 41, 30, 0), false},
		{"above the limit of the last leg", list(0, 50, 40, 31, 0), false},
		{"just not too slow a leg's end", list(0, 50, 40, 28, 0), false},
		{"as slow as a leg's end can be", list(0, 50, 40, 29, 0), true},
		{"as fast as a leg's end can be", list(0, 10, 0, 28, 0), true},
		{"too fast a leg's end", list(0, 10, 0, 29, 0), false},
		{"much too fast", list(0, greatest, 0, 0, 0), false},
		{"much too slow", list(0, least, 0, 0, 0), false},
		{"the square of it is 0 in 64 bits", list(0, 1<<32, 1<<62, 0, 0), false},
		{"the square of it is 0 in 64 bits, at the ends", list(1<<32, 0, 0, 0, 1<<62), false},
	} {
		kept, e := motion.Kept(m.l, m.corners, c.v, m.change)
		if e != api.OK || kept != c.kept || kept != m.keeps(c.v) {
			t.Error(c.name, kept, e)
		}
	}
	before := moves{legs(90, 30, 100, 90), list(90), 50}
	for speed, want := range map[int]bool{30: true, 31: false} {
		if kept, e := motion.Kept(before.l, before.corners, list(0, speed, 0), 50); e != api.OK || kept != want {
			t.Error("above the limit of the leg before", speed, kept, e)
		}
	}
}

// P6.2: speeds that are the greatest, or have become a little or much greater, or less.
func TestRandomKeptAndSlow(t *testing.T) {
	r := rand.New(rand.NewSource(7))
	met := make(map[bool]int)
	for range 5000 {
		m := anyMoves(r)
		most := m.fastest()
		v := slices.Clone(most)
		for range r.Intn(4) {
			i := r.Intn(len(v))
			v[i] += []int{-1, 1, -r.Intn(most[i] + 1), r.Intn(9)}[r.Intn(4)]
		}
		kept, e := motion.Kept(m.l, m.corners, v, m.change)
		if e != api.OK || kept != m.keeps(v) {
			t.Fatal(m, v, kept, e)
		}
		met[kept]++
		var want []int
		for i := range v {
			if v[i] < most[i] {
				want = append(want, i)
			}
		}
		places, e := motion.Slow(m.l, m.corners, v, m.change)
		if kept && (e != api.OK || !slices.Equal(places, want)) || !kept && (e != api.ErrRule || len(places) > 0) {
			t.Fatal(m, v, kept, places, want, e)
		}
	}
	if met[true] < 1000 || met[false] < 1000 {
		t.Error(met)
	}
}

// P6.2: the places of what could be greater; there are none in Speeds' own.
func TestSlow(t *testing.T) {
	m := moves{legs(1000, 90, 1000, 90, 1000, 90), list(60, 70), 50}
	for _, c := range []struct{ v, places []int }{
		{list(0, 60, 70, 0), nil},
		{list(0, 59, 70, 0), list(1)},
		{list(0, 60, 0, 0), list(2)},
		{list(0, 0, 0, 0), list(1, 2)},
	} {
		places, e := motion.Slow(m.l, m.corners, c.v, m.change)
		if e != api.OK || !slices.Equal(places, c.places) {
			t.Error(c.v, places, e)
		}
	}
}

// P6.2: the errors of Kept and Slow.
func TestWrongSpeeds(t *testing.T) {
	m := moves{legs(1000, 90, 1000, 90, 1000, 90), list(60, 70), 50}
	for _, v := range [][]int{nil, list(0), list(0, 0, 0), list(0, -1, 0), list(0, 0, 0, 0, 0), list(1, 1, 1, 1, 1), make([]int, api.MaxLegs+2)} {
		fails(t, v, api.ErrForm, withChange(m, v)[4:]...)
	}
	for _, v := range [][]int{list(0, 61, 70, 0), list(0, 60, 71, 0), list(1, 60, 70, 0), list(0, 60, 70, 1), list(0, -1, 70, 0), list(least, 0, 0, greatest), list(0, 1<<32, 1<<32, 0)} {
		fails(t, v, api.ErrRule, withChange(m, v)[4])
		if kept, e := motion.Kept(m.l, m.corners, v, m.change); kept || e != api.OK {
			t.Error(v, kept, e)
		}
	}
}

// P6.4: the least way in which a speed can be brought to 0.
func TestBrake(t *testing.T) {
	for _, c := range [][3]int{
		{0, 1, 0}, {0, api.MaxChange, 0}, {1, 1, 1}, {2, 1, 2}, {3, 1, 5}, {2, 2, 1}, {3, 2, 3}, {50, 50, 25}, {51, 50, 27}, {1, api.MaxChange, 1},
		{api.MaxSpeed, 1, 5_000_000_000}, {api.MaxSpeed, api.MaxChange, 500}, {api.MaxSpeed - 1, api.MaxChange, 500}, {99_899, api.MaxChange, 499}, {99_900, api.MaxChange, 500},
	} {
		if n, e := motion.Brake(c[0], c[1]); e != api.OK || n != c[2] {
			t.Error(c, n, e)
		}
	}
	r := rand.New(rand.NewSource(8))
	for range 2000 {
		speed, change := r.Intn(api.MaxSpeed+1), 1+r.Intn([]int{9, 5000, api.MaxChange}[r.Intn(3)])
		n, e := motion.Brake(speed, change)
		if e != api.OK || n < 0 || 2*change*n < speed*speed || n > 0 && 2*change*(n-1) >= speed*speed {
			t.Fatal(speed, change, n, e)
		}
	}
	for _, speed := range []int{least, -1, api.MaxSpeed + 1, greatest} {
		fails(t, speed, api.ErrArg, brake(speed, 1), brake(speed, 0))
	}
}

// P6.4: the greatest speed at the end of a leg.
func TestReached(t *testing.T) {
	for _, c := range []struct {
		from   int
		l      api.Leg
		change int
		speed  int
	}{
		{0, leg(100, 500), 50, 100},
		{0, leg(100, 100), 50, 100},
		{0, leg(100, 99), 50, 99},
		{0, leg(99, 500), 50, 99},
		{3, leg(8, 99), 1, 5},
		{3, leg(7, 99), 1, 4},
		{9, leg(1, 9), 1, 9},
		{9, leg(1, 10), 1, 9},
		{9, leg(10, 10), 1, 10},
		{0, leg(1, 1), 1, 1},
		{api.MaxSpeed, leg(api.MaxLeg, api.MaxSpeed), api.MaxChange, api.MaxSpeed},
		{0, leg(499, api.MaxSpeed), api.MaxChange, 99_899},
	} {
		if speed, e := motion.Reached(c.from, c.l, c.change); e != api.OK || speed != c.speed {
			t.Error(c, speed, e)
		}
	}
	r := rand.New(rand.NewSource(9))
	for range 2000 {
		m := anyMoves(r)
		l := m.l[0]
		from := r.Intn(l.Limit + 1)
		square := from*from + 2*m.change*l.Long
		speed, e := motion.Reached(from, l, m.change)
		if e != api.OK || speed < from || speed > l.Limit || speed*speed > square || speed < l.Limit && (speed+1)*(speed+1) <= square {
			t.Fatal(from, l, m.change, speed, e)
		}
	}
	for _, from := range []int{least, -1, 6, greatest} {
		fails(t, from, api.ErrArg, withLeg(from, 0, leg(9, 5), 1)...)
	}
}
