package flow_test

import (
	"math/rand"
	"slices"
	"testing"

	"beadlayer/api"
	"beadlayer/flow"
)

// wrongBeads are beads with each error of CheckBeads, at its bounds, and with several of them.
func wrongBeads() []struct {
	name string
	b    []api.Bead
	e    api.Errno
} {
	return []struct {
		name string
		b    []api.Bead
		e    api.Errno
	}{
		{"too many", slices.Repeat(beads(1, 1, 1), api.MaxBeads+1), api.ErrLarge},
		{"too many that are wrong", slices.Repeat(beads(-1, 0, 0), api.MaxBeads+1), api.ErrLarge},
		{"too many that are too full", fullest(api.MaxBeads + 1), api.ErrLarge},
		{"a length below 0", beads(-1, 1, 1), api.ErrArg},
		{"the least length", beads(1, 1, 1, least, 1, 1), api.ErrArg},
		{"too long", beads(api.MaxMove+1, 1, 1), api.ErrArg},
		{"the greatest length", beads(1, 1, 1, 1, 1, 1, greatest, 1, 1), api.ErrArg},
		{"no width", beads(1, 0, 1), api.ErrArg},
		{"no width without length", beads(0, 0, 1), api.ErrArg},
		{"a width below 0", beads(1, -1, -1), api.ErrArg},
		{"the least width", beads(1, least, 1, 1, 1, 1), api.ErrArg},
		{"too wide", beads(1, api.MaxWide+1, 1), api.ErrArg},
		{"the greatest width", beads(1, greatest, 1), api.ErrArg},
		{"no height", beads(1, 1, 0), api.ErrArg},
		{"a height below 0", beads(1, 1, 1, 1, 1, -1), api.ErrArg},
		{"the least height", beads(1, 1, least), api.ErrArg},
		{"too high", beads(1, 1, api.MaxWide+1), api.ErrArg},
		{"the greatest height", beads(1, 1, greatest), api.ErrArg},
		{"too full, and wrong", append(fullest(4_999), beads(1, 1, 0)...), api.ErrArg},
	}
}

// P7.1: what is valid, at its bounds, and what is not.
func TestCheckBeads(t *testing.T) {
	for _, b := range [][]api.Bead{
		nil,
		beads(0, 1, 1),
		beads(api.MaxMove, 1, 1, 0, api.MaxWide, 1, 0, 1, api.MaxWide),
		slices.Repeat(beads(0, 1, 1), api.MaxBeads),
		fullest(api.MaxBeads),
	} {
		if e := flow.CheckBeads(b); e != api.OK {
			t.Errorf("%.100v %v", b, e)
		}
	}
	for _, c := range wrongBeads() {
		if e := flow.CheckBeads(c.b); e != c.e {
			t.Error(c.name, e)
		}
	}
}

// P7.1, P7.2: all functions with beads return CheckBeads' error before their own ones.
func TestWrongBeads(t *testing.T) {
	for _, c := range wrongBeads() {
		fails(t, c.name, c.e, withBeads(c.b)...)
		fails(t, c.name, c.e, withArea(c.b, 1, 1, nil)...)
		fails(t, c.name, c.e, withArea(c.b, 0, 0, list(-1))...)
		fails(t, c.name, c.e, fastest(c.b, 1), fastest(c.b, 0), weight(c.b, 1), weight(c.b, 0))
	}
}

// P7.1: the volume is Long times Wide times High; that of some beads is the sum.
func TestVolume(t *testing.T) {
	for _, c := range []struct {
		b    []api.Bead
		want int
	}{
		{nil, 0},
		{beads(0, 5, 7), 0},
		{beads(10, 3, 2), 60},
		{beads(10, 3, 2, 10, 3, 2), 120},
		{beads(1, 2, 3, 0, 9, 9, 4, 5, 6), 126},
		{beads(api.MaxMove, api.MaxWide, api.MaxWide), 250_000_000_000_000},
		{fullest(3_999), 999_750_000_000_000_000},
		{fullest(4_000), 1_000_000_000_000_000_000},
		{append(fullest(4_000), beads(0, 1, 1)...), 1_000_000_000_000_000_000},
	} {
		if n, e := flow.Volume(c.b); e != api.OK || n != c.want {
			t.Errorf("%.100v %v %v", c.b, n, e)
		}
	}
	r := rand.New(rand.NewSource(1))
	for range 1000 {
		b := randomBeads(r)
		if n, e := flow.Volume(b); e != api.OK || integer(n).Cmp(volume(b)) != 0 {
			t.Fatal(b, n, e)
		}
	}
}

// P7.1: a volume is at most 1,000,000,000,000,000,000; the area is validated before.
func TestFull(t *testing.T) {
	for _, b := range [][]api.Bead{
		append(fullest(4_000), beads(1, 1, 1)...),
		append(beads(1, 1, 1), fullest(4_000)...),
		fullest(4_001),
		fullest(api.MaxBeads),
	} {
		fails(t, len(b), api.ErrFull, withBeads(b)[1:]...)
		for _, area := range []int{1, api.MaxArea} {
			fails(t, len(b), api.ErrFull, withArea(b, area, 0, list(-1))...)
		}
		for _, area := range []int{0, api.MaxArea + 1} {
			fails(t, len(b), api.ErrArg, withArea(b, area, 1, nil)...)
		}
		if e := flow.CheckBeads(b); e != api.OK {
			t.Error(len(b), e)
		}
		if speeds, e := flow.Fastest(b, 1); e != api.OK || len(speeds) != len(b) {
			t.Error(len(b), e)
		}
	}
}

// P7.1: an area is from 1 to MaxArea.
func TestArea(t *testing.T) {
	for _, area := range []int{least, -1, 0, api.MaxArea + 1, greatest} {
		for _, b := range [][]api.Bead{nil, beads(10, 3, 2), beads(0, 1, 1)} {
			fails(t, area, api.ErrArg, withArea(b, area, 1, nil)...)
		}
	}
	for _, area := range []int{1, api.MaxArea} {
		for _, f := range withArea(beads(10, 3, 2), area, 1, nil) {
			if _, e := f.run(); e != api.OK {
				t.Error(f.name, area, e)
			}
		}
	}
}

// P7.1: Need is the volume divided by the area, in lowest terms.
func TestNeed(t *testing.T) {
	for _, c := range []struct {
		b    []api.Bead
		area int
		want api.Fraction
	}{
		{nil, 7, ratio(0, 1)},
		{beads(0, 3, 4), 7, ratio(0, 1)},
		{beads(10, 3, 2, 10, 3, 2), 40, ratio(3, 1)},
		{beads(10, 3, 2), 40, ratio(3, 2)},
		{beads(1, 1, 1), api.MaxArea, ratio(1, api.MaxArea)},
		{fullest(4_000), 1, ratio(1_000_000_000_000_000_000, 1)},
		{fullest(4_000), 3, ratio(1_000_000_000_000_000_000, 3)},
		{fullest(4_000), api.MaxArea, ratio(10_000_000_000, 1)},
	} {
		if f, e := flow.Need(c.b, c.area); e != api.OK || f != c.want {
			t.Errorf("%.100v %v %v %v", c.b, c.area, f, e)
		}
	}
	r := rand.New(rand.NewSource(2))
	for range 1000 {
		b, area := randomBeads(r), randomArea(r)
		if f, e := flow.Need(b, area); e != api.OK || f != lowest(volume(b), area) {
			t.Fatal(b, area, f, e)
		}
	}
}

// P7.1: positions are rounded half up, and do not drift; amounts are their differences.
func TestPositions(t *testing.T) {
	for _, c := range []struct {
		b                  []api.Bead
		area               int
		positions, amounts []int
	}{
		{nil, 7, nil, nil},
		{beads(10, 3, 2, 10, 3, 2), 40, list(2, 3), list(2, 1)},
		{beads(1, 1, 1), 2, list(1), list(1)},
		{beads(1, 1, 1), 3, list(0), list(0)},
		{beads(2, 1, 1), 3, list(1), list(1)},
		{slices.Repeat(beads(1, 1, 1), 7), 3, list(0, 1, 1, 1, 2, 2, 2), list(0, 1, 0, 0, 1, 0, 0)},
		{slices.Repeat(beads(1, 1, 1), 6), 4, list(0, 1, 1, 1, 1, 2), list(0, 1, 0, 0, 0, 1)},
		{slices.Repeat(beads(3, 1, 1), 4), 2, list(2, 3, 5, 6), list(2, 1, 2, 1)},
		{beads(0, 9, 9, 5, 1, 1, 0, 9, 9), 1, list(0, 5, 5), list(0, 5, 0)},
		{beads(9_999_999, 5, 1, 4, 1, 1, 1, 1, 1), api.MaxArea, list(0, 0, 1), list(0, 0, 1)},
		{beads(api.MaxMove, api.MaxWide, api.MaxWide), 1, list(250_000_000_000_000), list(250_000_000_000_000)},
	} {
		positions, e := flow.Positions(c.b, c.area)
		if e != api.OK || !slices.Equal(positions, c.positions) {
			t.Errorf("%v %v %v %v", c.b, c.area, positions, e)
		}
		amounts, e := flow.Amounts(c.b, c.area)
		if e != api.OK || !slices.Equal(amounts, c.amounts) {
			t.Errorf("%v %v %v %v", c.b, c.area, amounts, e)
		}
	}
	positions, e := flow.Positions(fullest(4_000), 1)
	if e != api.OK || len(positions) != 4_000 || positions[3_999] != 1_000_000_000_000_000_000 {
		t.Error(len(positions), e)
	}
}

// P7.1: a position is the rounded quotient of the volume up to it; amounts add up to it.
func TestRandomPositions(t *testing.T) {
	r := rand.New(rand.NewSource(3))
	for range 2000 {
		b, area := randomBeads(r), randomArea(r)
		positions, e := flow.Positions(b, area)
		amounts, again := flow.Amounts(b, area)
		if e != api.OK || again != api.OK || len(positions) != len(b) || len(amounts) != len(b) {
			t.Fatal(b, area, positions, amounts, e, again)
		}
		sum := 0
		for i, position := range positions {
			sum += amounts[i]
			if want := halfUp(volume(b[:i+1]), area); position != want || sum != want {
				t.Fatal(b, area, i, position, sum, want)
			}
		}
	}
}
