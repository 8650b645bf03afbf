package motion_test

import (
	"math/big"
	"math/rand"
	"slices"
	"testing"

	"beadlayer/api"
	"beadlayer/motion"
)

// P6.3: the document's example, and others that can be told by hand.
func TestTimes(t *testing.T) {
	for _, c := range []struct {
		name         string
		m            moves
		peaks, times []int
	}{
		{"the document's example", moves{legs(200, 100), nil, 50}, list(100), list(4_000_000)},
		{"a slower peak is kept", moves{legs(200, 50), nil, 50}, list(50), list(5_000_000)},
		{"a limit that is not reached", moves{legs(200, 101), nil, 50}, list(100), list(4_000_000)},
		{"a micrometre less", moves{legs(199, 101), nil, 50}, list(99), list(3_990_102)},
		{"a peak between two corners", moves{legs(25, 99, 100, 99, 25, 99), list(99, 99), 50}, list(50, 86, 50), list(1_000_000, 1_464_187, 1_000_000)},
		{"up and down again", moves{legs(25, 50, 25, 50), list(99), 50}, list(50, 50), list(1_000_000, 1_000_000)},
		{"the least peak", moves{legs(1, 1), nil, 1}, list(1), list(2_000_000)},
		{"long and slow", moves{legs(api.MaxLeg, 1), nil, 1}, list(1), list(200_001_000_000)},
		{"long and fast", moves{legs(api.MaxLeg, api.MaxSpeed), nil, api.MaxChange}, list(api.MaxSpeed), list(2_010_000)},
		{"short and fast", moves{legs(1, api.MaxSpeed), nil, api.MaxChange}, list(3162), list(633)},
	} {
		peaks, e := motion.Peaks(c.m.l, c.m.corners, c.m.change)
		times, again := motion.Times(c.m.l, c.m.corners, c.m.change)
		if e != api.OK || again != api.OK || !slices.Equal(peaks, c.peaks) || !slices.Equal(times, c.times) {
			t.Error(c.name, peaks, times, e, again)
		}
		want := 0
		for _, time := range c.times {
			want += time
		}
		if total, e := motion.Total(c.m.l, c.m.corners, c.m.change); e != api.OK || total != want {
			t.Error(c.name, total, e)
		}
	}
}

// P6.3: peaks and times as the document's words say, with fractions of any size.
func TestRandomTimes(t *testing.T) {
	r := rand.New(rand.NewSource(10))
	for range 2000 {
		m := anyMoves(r)
		v, want := m.fastest(), m.peaks()
		peaks, e := motion.Peaks(m.l, m.corners, m.change)
		if e != api.OK || !slices.Equal(peaks, want) {
			t.Fatal(m, peaks, want, e)
		}
		times, e := motion.Times(m.l, m.corners, m.change)
		if e != api.OK || len(times) != len(m.l) {
			t.Fatal(m, times, e)
		}
		all := 0
		for i, p := range peaks {
			if p < v[i] || p < v[i+1] || times[i] != roundedUp(microseconds(v[i], v[i+1], p, m.l[i], m.change)) {
				t.Fatal(m, i, p, times[i])
			}
			all += times[i]
		}
		if total, e := motion.Total(m.l, m.corners, m.change); e != api.OK || total != all {
			t.Fatal(m, total, all, e)
		}
	}
}

// P6.3: what a leg takes exactly, in lowest terms.
func TestExact(t *testing.T) {
	for _, c := range []struct {
		from, to int
		l        api.Leg
		change   int
		num, den int
	}{
		{0, 0, leg(200, 100), 50, 4_000_000, 1},
		{0, 0, leg(200, 50), 50, 5_000_000, 1},
		{50, 50, leg(200, 50), 50, 4_000_000, 1},
		{0, 50, leg(200, 50), 50, 4_500_000, 1},
		{50, 0, leg(200, 50), 50, 4_500_000, 1},
		{0, 0, leg(199, 101), 50, 395_020_000, 99},
		{0, 2, leg(1, 2), 2, 1_000_000, 1},
		{3, 3, leg(1, 3), 7, 1_000_000, 3},
		{1, 2, leg(5, 6), 3, 5_375_000, 3},
		{api.MaxSpeed, api.MaxSpeed, leg(api.MaxLeg, api.MaxSpeed), api.MaxChange, 2_000_000, 1},
		{0, 0, leg(api.MaxLeg, api.MaxSpeed), api.MaxChange, 2_010_000, 1},
		{0, 0, leg(api.MaxLeg, 99_999), api.MaxChange, 2_009_999_800_001, 999_990},
		{0, 0, leg(api.MaxLeg, 1), api.MaxChange, 2_000_000_000_001, 10},
	} {
		f, e := motion.Exact(c.from, c.to, c.l, c.change)
		if e != api.OK || f != (api.Fraction{Num: c.num, Den: c.den}) {
			t.Error(c, f, e)
		}
	}
}

// P6.3: the fraction, from and to any speeds between which the leg is long enough, and ErrRule for others.
func TestRandomExact(t *testing.T) {
	r := rand.New(rand.NewSource(11))
	met := make(map[api.Errno]int)
	for range 5000 {
		m := anyMoves(r)
		l := m.l[0]
		u, w := r.Intn(l.Limit+1), r.Intn(l.Limit+1)
		if r.Intn(2) == 0 {
			w, _ = motion.Reached(u, l, m.change)
			w = min(w+r.Intn(2), l.Limit)
		}
		if r.Intn(2) == 0 {
			u, w = w, u
		}
		f, e := motion.Exact(u, w, l, m.change)
		met[e]++
		if abs(u*u-w*w) > 2*m.change*l.Long {
			if e != api.ErrRule || f != (api.Fraction{}) {
				t.Fatal(u, w, l, m.change, f, e)
			}
			continue
		}
		p := l.Limit
		for 2*p*p > u*u+w*w+2*m.change*l.Long {
			p--
		}
		want := microseconds(u, w, p, l, m.change)
		if e != api.OK || want.Num().Cmp(big.NewInt(int64(f.Num))) != 0 || want.Denom().Cmp(big.NewInt(int64(f.Den))) != 0 {
			t.Fatal(u, w, l, m.change, f, want, e)
		}
	}
	if met[api.OK] < 1000 || met[api.ErrRule] < 1000 {
		t.Error(met)
	}
}

// P6.3: the errors of Exact, and the first one of several.
func TestWrongExact(t *testing.T) {
	for _, c := range []struct {
		from, to int
		l        api.Leg
		change   int
		e        api.Errno
	}{
		{-1, 0, leg(9, 5), 1, api.ErrArg},
		{0, -1, leg(9, 5), 1, api.ErrArg},
		{6, 5, leg(9, 5), 1, api.ErrArg},
		{5, 6, leg(9, 5), 1, api.ErrArg},
		{least, 0, leg(9, 5), 1, api.ErrArg},
		{0, greatest, leg(9, 5), 1, api.ErrArg},
		{1 << 32, 0, leg(9, 5), 1, api.ErrArg},
		{0, 6, leg(1, 5), 1, api.ErrArg},
		{6, 0, leg(1, 5), 1, api.ErrArg},
		{0, 5, leg(12, 5), 1, api.ErrRule},
		{5, 0, leg(12, 5), 1, api.ErrRule},
		{0, 5, leg(13, 5), 1, api.OK},
		{5, 0, leg(13, 5), 1, api.OK},
		{0, 4, leg(8, 5), 1, api.OK},
		{0, 4, leg(7, 5), 1, api.ErrRule},
		{0, api.MaxSpeed, leg(499, api.MaxSpeed), api.MaxChange, api.ErrRule},
		{0, api.MaxSpeed, leg(500, api.MaxSpeed), api.MaxChange, api.OK},
	} {
		f, e := motion.Exact(c.from, c.to, c.l, c.change)
		if e != c.e || (f == api.Fraction{}) != (e != api.OK) {
			t.Error(c, f, e)
		}
	}
}
