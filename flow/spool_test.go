package flow_test

import (
	"math/rand"
	"slices"
	"strings"
	"testing"

	"beadlayer/api"
	"beadlayer/flow"
)

// wrongSpools are spools with each error of CheckSpools, at its bounds, and with several of them.
func wrongSpools() []struct {
	name string
	s    []api.Spool
	e    api.Errno
} {
	a := spool("a", "m", 1)
	return []struct {
		name string
		s    []api.Spool
		e    api.Errno
	}{
		{"too many", spools(make([]int, api.MaxSpools+1)...), api.ErrLarge},
		{"too many that are wrong", slices.Repeat([]api.Spool{spool("", "", -1)}, api.MaxSpools+1), api.ErrLarge},
		{"no key", []api.Spool{spool("", "m", 1)}, api.ErrName},
		{"not a key", []api.Spool{spool("A", "m", 1)}, api.ErrName},
		{"a key that is too long", []api.Spool{spool(strings.Repeat("a", api.MaxName+1), "m", 1)}, api.ErrName},
		{"a key with a blank", []api.Spool{a, spool("b ", "m", 1)}, api.ErrName},
		{"no material", []api.Spool{spool("a", "", 1)}, api.ErrName},
		{"a material that is not a key", []api.Spool{a, spool("b", "1m", 1)}, api.ErrName},
		{"no key, and too little left", []api.Spool{spool("", "m", -1)}, api.ErrName},
		{"no material, and too much left", []api.Spool{spool("a", "", api.MaxFilament+1)}, api.ErrName},
		{"too little left", []api.Spool{spool("a", "m", -1)}, api.ErrArg},
		{"the least left", []api.Spool{a, spool("b", "m", least)}, api.ErrArg},
		{"too much left", []api.Spool{spool("a", "m", api.MaxFilament+1)}, api.ErrArg},
		{"the greatest left", []api.Spool{spool("a", "m", greatest)}, api.ErrArg},
		{"twice", []api.Spool{a, a}, api.ErrOrder},
		{"not in order", []api.Spool{spool("b", "m", 1), a}, api.ErrOrder},
		{"not in the order of bytes", []api.Spool{spool("a_", "m", 1), spool("a-", "m", 1)}, api.ErrOrder},
		{"not in order, and too much left", []api.Spool{a, spool("a", "m", -1)}, api.ErrArg},
		{"not in order, before a wrong one", []api.Spool{a, a, spool("", "", -1)}, api.ErrOrder},
		{"too much left, before a wrong one", []api.Spool{spool("a", "m", -1), spool("", "", -1)}, api.ErrArg},
	}
}

// P7.3: what is valid, at its bounds, and what is not.
func TestCheckSpools(t *testing.T) {
	long := strings.Repeat("z", api.MaxName)
	for _, s := range [][]api.Spool{
		nil,
		{spool("a", "m", 0)},
		{spool("a", "m", api.MaxFilament)},
		{spool("a", "m", 1), spool("a-", "m", 1), spool("a0", "z", 1), spool("a_", "m", 1), spool("aa", "b", 1), spool("b", "a", 1), spool(long, long, 0)},
		spools(make([]int, api.MaxSpools)...),
	} {
		if e := flow.CheckSpools(s); e != api.OK {
			t.Error(s, e)
		}
	}
	for _, c := range wrongSpools() {
		if e := flow.CheckSpools(c.s); e != c.e {
			t.Error(c.name, e)
		}
	}
}

// P7.3, P7.4: all functions with spools return CheckSpools' error before their own ones.
func TestWrongSpools(t *testing.T) {
	for _, c := range wrongSpools() {
		fails(t, c.name, c.e, withDraws(c.s, nil, 0)...)
		fails(t, c.name, c.e, withDraws(c.s, []api.Draw{draw(-1, "", 0)}, -1)...)
		fails(t, c.name, c.e, fits(c.s, "m", nil), fits(c.s, "", list(0)), changes(c.s, "m", 0), changes(c.s, "", -1))
	}
}

// P7.3: draws in order; a refused one changes nothing.
func TestDraws(t *testing.T) {
	s := []api.Spool{spool("a", "pla", 100), spool("b", "pet", api.MaxFilament), spool("c", "pla", 0)}
	d := []api.Draw{
		draw(5, "a", 70), draw(5, "a", 31), draw(5, "a", 30), draw(5, "a", 1), draw(7, "a", -40), draw(9, "a", 40),
		draw(9, "b", -1), draw(9, "b", 1), draw(10, "b", -1), draw(10, "b", api.MaxFilament), draw(10, "b", -api.MaxFilament), draw(10, "b", 1),
		draw(api.End-1, "c", 1), draw(api.End-1, "c", -5), draw(api.End-1, "c", 5),
	}
	if l, e := flow.Refused(s, d); e != api.OK || !slices.Equal(l, list(1, 3, 6, 12)) {
		t.Error(l, e)
	}
	for _, c := range []struct {
		at   int
		want []int
	}{
		{0, list(100, api.MaxFilament, 0)},
		{4, list(100, api.MaxFilament, 0)},
		{5, list(0, api.MaxFilament, 0)},
		{6, list(0, api.MaxFilament, 0)},
		{7, list(40, api.MaxFilament, 0)},
		{8, list(40, api.MaxFilament, 0)},
		{9, list(0, api.MaxFilament-1, 0)},
		{10, list(0, api.MaxFilament-1, 0)},
		{api.End - 2, list(0, api.MaxFilament-1, 0)},
		{api.End - 1, list(0, api.MaxFilament-1, 0)},
	} {
		if l, e := flow.Left(s, d, c.at); e != api.OK || !slices.Equal(l, c.want) {
			t.Error(c.at, l, e)
		}
	}
	for _, n := range []int{13, 14} {
		if l, e := flow.Left(s, d[:n], api.End-1); e != api.OK || !slices.Equal(l, list(0, api.MaxFilament-1, 5*(n-13))) {
			t.Error(n, l, e)
		}
	}
	if l, e := flow.Left(s, nil, 3); e != api.OK || !slices.Equal(l, list(100, api.MaxFilament, 0)) {
		t.Error(l, e)
	}
	if l, e := flow.Refused(nil, nil); e != api.OK || len(l) > 0 {
		t.Error(l, e)
	}
}

// P7.3: Left and Refused agree with draws that are done one by one.
func TestRandomDraws(t *testing.T) {
	r := rand.New(rand.NewSource(7))
	for range 1000 {
		most := []int{5, 60, api.MaxFilament}[r.Intn(3)]
		s := randomSpools(r, 6, most)
		d := randomDraws(r, s, most)
		at := r.Intn(30)
		left, until := make(map[string]int), make(map[string]int)
		for _, one := range s {
			left[one.Key], until[one.Key] = one.Left, one.Left
		}
		var refused []int
		for i, one := range d {
			rest := left[one.Spool] - one.Long
			if rest < 0 || rest > api.MaxFilament {
				refused = append(refused, i)
				continue
			}
			left[one.Spool] = rest
			if one.At <= at {
				until[one.Spool] = rest
			}
		}
		if l, e := flow.Refused(s, d); e != api.OK || !slices.Equal(l, refused) {
			t.Fatal(s, d, l, refused, e)
		}
		l, e := flow.Left(s, d, at)
		if e != api.OK || len(l) != len(s) {
			t.Fatal(s, d, at, l, e)
		}
		for i, one := range s {
			if l[i] != until[one.Key] {
				t.Fatal(s, d, at, l, until)
			}
		}
	}
}

// P7.3: the errors of draws, and the first one of several; of Left then that of the moment.
func TestWrongDraws(t *testing.T) {
	s := []api.Spool{spool("b", "m", 100), spool("d", "m", 100)}
	good := draw(5, "b", 1)
	for _, c := range []struct {
		name string
		d    []api.Draw
		e    api.Errno
	}{
		{"too many", slices.Repeat([]api.Draw{good}, api.MaxBeads+1), api.ErrLarge},
		{"too many that are wrong", slices.Repeat([]api.Draw{draw(-1, "", 0)}, api.MaxBeads+1), api.ErrLarge},
		{"before all moments", []api.Draw{draw(-1, "b", 1)}, api.ErrArg},
		{"the least moment", []api.Draw{draw(least, "b", 1)}, api.ErrArg},
		{"after all moments", []api.Draw{good, draw(api.End, "b", 1)}, api.ErrArg},
		{"the greatest moment", []api.Draw{draw(greatest, "b", 1)}, api.ErrArg},
		{"no moment, no spool", []api.Draw{draw(-1, "x", 0)}, api.ErrArg},
		{"a spool before all", []api.Draw{draw(5, "a", 1)}, api.ErrNone},
		{"a spool between", []api.Draw{good, draw(5, "c", 1)}, api.ErrNone},
		{"a spool after all", []api.Draw{draw(5, "e", 1)}, api.ErrNone},
		{"no key", []api.Draw{draw(5, "", 1)}, api.ErrNone},
		{"not a key", []api.Draw{draw(5, "B", 1)}, api.ErrNone},
		{"a longer key", []api.Draw{draw(5, "bb", 1)}, api.ErrNone},
		{"no spool, nothing drawn, too early", []api.Draw{good, draw(4, "x", 0)}, api.ErrNone},
		{"nothing drawn", []api.Draw{draw(5, "b", 0)}, api.ErrArg},
		{"too much drawn", []api.Draw{draw(5, "b", api.MaxFilament+1)}, api.ErrArg},
		{"the most drawn", []api.Draw{draw(5, "b", greatest)}, api.ErrArg},
		{"too much put back", []api.Draw{good, draw(5, "d", -api.MaxFilament-1)}, api.ErrArg},
		{"the most put back", []api.Draw{draw(5, "b", least)}, api.ErrArg},
		{"nothing drawn, too early", []api.Draw{good, draw(4, "b", 0)}, api.ErrArg},
		{"too early", []api.Draw{good, draw(4, "b", 1)}, api.ErrOrder},
		{"too early on another spool", []api.Draw{draw(5, "d", 500), draw(4, "b", 1)}, api.ErrOrder},
		{"too early, before a wrong one", []api.Draw{good, draw(4, "b", 1), draw(-1, "b", 1)}, api.ErrOrder},
		{"nothing drawn, before one too early", []api.Draw{draw(5, "b", 0), draw(4, "b", 1)}, api.ErrArg},
	} {
		fails(t, c.name, c.e, withDraws(s, c.d, 0)...)
		fails(t, c.name, c.e, withDraws(s, c.d, -1)...)
	}
	fails(t, "no spools", api.ErrNone, withDraws(nil, []api.Draw{good}, 0)...)
	for _, at := range []int{least, -1, api.End, greatest} {
		fails(t, at, api.ErrArg, withDraws(s, []api.Draw{good}, at)[0], withDraws(nil, nil, at)[0])
	}
	for _, d := range [][]api.Draw{{draw(0, "b", 1)}, {draw(api.End-1, "d", -1)}, {draw(0, "b", api.MaxFilament), draw(0, "b", -api.MaxFilament)}} {
		for _, f := range withDraws(s, d, api.End-1) {
			if _, e := f.run(); e != api.OK {
				t.Error(f.name, d, e)
			}
		}
	}
}

// P7.3: as many draws as there can be, from as many spools.
func TestMostDraws(t *testing.T) {
	s := spools(slices.Repeat(list(50), api.MaxSpools)...)
	var d []api.Draw
	var refused []int
	for i := range api.MaxBeads {
		d = append(d, draw(i, keyOf(i%api.MaxSpools), 1))
		if i >= 50*api.MaxSpools {
			refused = append(refused, i)
		}
	}
	if l, e := flow.Refused(s, d); e != api.OK || !slices.Equal(l, refused) {
		t.Error(len(l), e)
	}
	if l, e := flow.Left(s, d, 99); e != api.OK || !slices.Equal(l, slices.Repeat(list(48), api.MaxSpools)) {
		t.Error(l, e)
	}
}
