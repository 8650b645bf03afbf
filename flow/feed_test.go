package flow_test

import (
	"math/rand"
	"slices"
	"testing"

	"beadlayer/api"
	"beadlayer/flow"
)

// P7.2: before some beads, filament is taken back and fed again.
func TestRetracted(t *testing.T) {
	three := beads(10, 3, 2, 10, 3, 2, 10, 3, 2)
	for _, c := range []struct {
		b        []api.Bead
		back     int
		at, want []int
	}{
		{nil, 5, nil, nil},
		{three, 5, nil, list(2, 1, 2)},
		{three, 5, list(0), list(-5, 5, 2, 1, 2)},
		{three, 800, list(1), list(2, -800, 800, 1, 2)},
		{three, 5, list(2), list(2, 1, -5, 5, 2)},
		{three, 1, list(0, 2), list(-1, 1, 2, 1, -1, 1, 2)},
		{three, api.MaxWide, list(0, 1, 2), list(-5000, 5000, 2, -5000, 5000, 1, -5000, 5000, 2)},
		{beads(0, 1, 1), 3, list(0), list(-3, 3, 0)},
	} {
		if l, e := flow.Retracted(c.b, 40, c.back, c.at); e != api.OK || !slices.Equal(l, c.want) {
			t.Error(c.b, c.back, c.at, l, e)
		}
	}
	r := rand.New(rand.NewSource(4))
	for range 1000 {
		b, area, back := randomBeads(r), randomArea(r), 1+r.Intn(api.MaxWide)
		amounts, _ := flow.Amounts(b, area)
		var at, want []int
		for i, amount := range amounts {
			if r.Intn(2) == 0 {
				at = append(at, i)
				want = append(want, -back, back)
			}
			want = append(want, amount)
		}
		if l, e := flow.Retracted(b, area, back, at); e != api.OK || !slices.Equal(l, want) {
			t.Fatal(b, area, back, at, l, e)
		}
	}
}

// P7.2: every bead can have a retraction.
func TestRetractedMost(t *testing.T) {
	var at, want []int
	for i := range api.MaxBeads {
		at = append(at, i)
		want = append(want, -7, 7, 4)
	}
	l, e := flow.Retracted(slices.Repeat(beads(4, 2, 1), api.MaxBeads), 2, 7, at)
	if e != api.OK || !slices.Equal(l, want) {
		t.Error(len(l), e)
	}
}

// P7.2: the errors of Retracted, after those of Amounts, and the first one of several.
func TestWrongRetracted(t *testing.T) {
	three := beads(10, 3, 2, 10, 3, 2, 10, 3, 2)
	many := slices.Repeat(list(0), api.MaxBeads+1)
	for _, c := range []struct {
		back int
		at   []int
		e    api.Errno
	}{
		{0, nil, api.ErrArg},
		{-1, list(0), api.ErrArg},
		{least, list(0), api.ErrArg},
		{api.MaxWide + 1, list(0), api.ErrArg},
		{greatest, list(0), api.ErrArg},
		{0, many, api.ErrArg},
		{0, list(1, 1), api.ErrArg},
		{1, many, api.ErrLarge},
		{1, slices.Repeat(list(-1), api.MaxBeads+1), api.ErrLarge},
		{1, many[1:], api.ErrOrder},
		{1, list(-1), api.ErrArg},
		{1, list(3), api.ErrArg},
		{1, list(least), api.ErrArg},
		{1, list(0, greatest), api.ErrArg},
		{1, list(1, 1), api.ErrOrder},
		{1, list(0, 2, 1), api.ErrOrder},
		{1, list(2, 0, 3), api.ErrOrder},
		{1, list(0, 3, 0), api.ErrArg},
		{1, list(2, -1), api.ErrArg},
	} {
		fails(t, c, c.e, retracted(three, 40, c.back, c.at))
	}
	fails(t, "no bead", api.ErrArg, retracted(nil, 40, 1, list(0)))
	fails(t, "no area, many places", api.ErrArg, retracted(three, 0, 1, many))
	fails(t, "too full, no back", api.ErrFull, retracted(fullest(4_001), 40, 0, list(1, 1)))
}

// P7.2: the greatest whole speed at which the volume each millisecond is at most the flow, also of beads without length.
func TestFastest(t *testing.T) {
	for _, c := range []struct {
		b    []api.Bead
		most int
		want []int
	}{
		{nil, 1, nil},
		{beads(10, 3, 2, 10, 3, 2), 20, list(3, 3)},
		{beads(10, 3, 2, 1, 3, 2, 0, 3, 2), 18, list(3, 3, 3)},
		{beads(10, 3, 2), 17, list(2)},
		{beads(10, 3, 2, 10, 5, 1, 10, 1, 1), 5, list(0, 1, 5)},
		{beads(10, 1, 1, 10, api.MaxWide, api.MaxWide), 1_000_000_000_000, list(1_000_000_000_000, 40_000)},
		{beads(10, api.MaxWide, api.MaxWide), 1, list(0)},
	} {
		if l, e := flow.Fastest(c.b, c.most); e != api.OK || !slices.Equal(l, c.want) {
			t.Error(c.b, c.most, l, e)
		}
	}
	r := rand.New(rand.NewSource(5))
	for range 1000 {
		b, most := randomBeads(r), 1+r.Intn([]int{9, 100, 1_000_000_000_000}[r.Intn(3)])
		l, e := flow.Fastest(b, most)
		if e != api.OK || len(l) != len(b) {
			t.Fatal(b, most, l, e)
		}
		for i, bead := range b {
			section := bead.Wide * bead.High
			if l[i]*section > most || (l[i]+1)*section <= most {
				t.Fatal(bead, most, l[i])
			}
		}
	}
	for _, most := range []int{least, -1, 0, 1_000_000_000_001, greatest} {
		fails(t, most, api.ErrArg, fastest(nil, most), fastest(beads(1, 1, 1), most), fastest(fullest(api.MaxBeads), most))
	}
}

// P7.2: times are at least the least one, and grow together by what is returned.
func TestSlowed(t *testing.T) {
	for _, c := range []struct {
		times    []int
		shortest int
		want     []int
		growth   int
	}{
		{nil, 5, nil, 0},
		{list(5, 20, 9), 10, list(10, 20, 10), 6},
		{list(5, 20, 9), 0, list(5, 20, 9), 0},
		{list(10, 11, 9), 10, list(10, 11, 10), 1},
		{list(0, 0), 0, list(0, 0), 0},
		{list(0, api.DayLong), api.DayLong, list(api.DayLong, api.DayLong), api.DayLong},
		{make([]int, api.MaxBeads), api.DayLong, slices.Repeat(list(api.DayLong), api.MaxBeads), api.MaxBeads * api.DayLong},
	} {
		if l, n, e := flow.Slowed(c.times, c.shortest); e != api.OK || n != c.growth || !slices.Equal(l, c.want) {
			t.Errorf("%.100v %v %.100v %v %v", c.times, c.shortest, l, n, e)
		}
	}
}

// P7.2: the errors of Slowed, and the first one of several.
func TestWrongSlowed(t *testing.T) {
	for _, c := range []struct {
		times    []int
		shortest int
		e        api.Errno
	}{
		{make([]int, api.MaxBeads+1), 1, api.ErrLarge},
		{slices.Repeat(list(-1), api.MaxBeads+1), -1, api.ErrLarge},
		{list(-1), 1, api.ErrArg},
		{list(1, least), 1, api.ErrArg},
		{list(1, api.DayLong+1, 1), 1, api.ErrArg},
		{list(greatest), 1, api.ErrArg},
		{nil, -1, api.ErrArg},
		{list(1), -1, api.ErrArg},
		{list(1), least, api.ErrArg},
		{list(1), api.DayLong + 1, api.ErrArg},
		{nil, greatest, api.ErrArg},
	} {
		fails(t, c.times, c.e, slowed(c.times, c.shortest))
	}
}

// P7.2: the volume times density, divided by 1,000,000,000,000, in lowest terms.
func TestWeight(t *testing.T) {
	for _, c := range []struct {
		b       []api.Bead
		density int
		want    api.Fraction
	}{
		{nil, 1, ratio(0, 1)},
		{beads(0, 5, 5), 1_000_000, ratio(0, 1)},
		{beads(10, 3, 2, 10, 3, 2), 1_250, ratio(3, 20_000_000)},
		{beads(1, 1, 1), 1, ratio(1, 1_000_000_000_000)},
		{beads(api.MaxMove, 1_000, 100), 1, ratio(1, 1)},
		{beads(api.MaxMove, 1_000, 100), 1_000_000, ratio(1_000_000, 1)},
		{beads(api.MaxMove-1, 1_000, 100), 999_999, ratio(9_999_999*999_999, 10_000_000)},
	} {
		if f, e := flow.Weight(c.b, c.density); e != api.OK || f != c.want {
			t.Error(c.b, c.density, f, e)
		}
	}
	r := rand.New(rand.NewSource(6))
	for range 1000 {
		b, density := randomBeads(r), 1+r.Intn(1_000_000)
		v := volume(b)
		if v.Cmp(integer(1_000_000_000_000)) > 0 {
			fails(t, b, api.ErrFull, weight(b, density))
			continue
		}
		if f, e := flow.Weight(b, density); e != api.OK || f != lowest(v.Mul(v, integer(density)), 1_000_000_000_000) {
			t.Fatal(b, density, f, e)
		}
	}
}

// P7.2: the errors of Weight: those of Volume, of the density, and of a volume that is too great.
func TestWrongWeight(t *testing.T) {
	heavy := beads(api.MaxMove, 1_000, 100, 1, 1, 1)
	for _, density := range []int{least, -1, 0, 1_000_001, greatest} {
		fails(t, density, api.ErrArg, weight(nil, density), weight(beads(1, 1, 1), density), weight(heavy, density))
		fails(t, density, api.ErrFull, weight(fullest(4_001), density))
	}
	for _, density := range []int{1, 1_000_000} {
		fails(t, density, api.ErrFull, weight(heavy, density), weight(fullest(1), density), weight(fullest(4_000), density))
	}
}
