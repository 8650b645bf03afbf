package flow_test

import (
	"math/rand"
	"slices"
	"testing"

	"beadlayer/api"
	"beadlayer/flow"
)

// P7.4: as few spools as possible; of several ways the one with the smallest indices.
func TestFits(t *testing.T) {
	for _, c := range []struct {
		left, needs, want []int
		is                bool
	}{
		{nil, nil, nil, true},
		{list(5), nil, nil, true},
		{nil, list(1), nil, false},
		{list(0), list(1), nil, false},
		{list(5), list(5), list(0), true},
		{list(5), list(6), nil, false},
		{list(5, 6), list(6), list(1), true},
		{list(100, 60), list(50, 40, 60), list(0, 0, 1), true},
		{list(100, 60), list(70, 70), nil, false},
		{list(60, 100), list(50, 50), list(1, 1), true},
		{list(60, 100, 100), list(50, 50), list(1, 1), true},
		{list(5, 5, 5), list(3, 3), list(0, 1), true},
		{list(5, 5, 5), list(3, 2, 3), list(0, 0, 1), true},
		{list(3, 5, 5), list(3, 2, 3), list(0, 1, 1), true},
		{list(2, 5, 3), list(3, 2, 3), list(1, 1, 2), true},
		{list(2, 4, 3), list(3, 2, 3), list(1, 0, 2), true},
		{list(4, 6, 6), list(4, 3, 3, 2), list(1, 2, 2, 1), true},
		{list(6, 6, 4), list(4, 3, 3, 2), list(0, 1, 1, 0), true},
		{list(7, 7), list(6, 4, 3, 1), list(0, 1, 1, 0), true},
		{list(9, 1, 1, 1, 36), list(1, 2, 3, 4, 5, 6, 7, 8), list(4, 4, 4, 4, 4, 4, 4, 4), true},
		{list(1, 2, 3, 4, 5, 6, 7, 8), list(8, 7, 6, 5, 4, 3, 2, 1), list(7, 6, 5, 4, 3, 2, 1, 0), true},
		{list(8, 1, 2, 3, 4, 5, 6, 7), list(8, 7, 6, 5, 4, 3, 2, 2), nil, false},
		{list(api.MaxFilament), list(api.MaxFilament), list(0), true},
	} {
		if l, is, e := flow.Fits(spools(c.left...), "m", c.needs); e != api.OK || is != c.is || !slices.Equal(l, c.want) {
			t.Error(c.left, c.needs, l, is, e)
		}
	}
}

// packed tries all ways of putting needs on spools, in lexicographic order.
func packed(s []api.Spool, material string, needs []int) ([]int, bool) {
	var best []int
	fewest := len(needs) + 1
	way := make([]int, len(needs))
	var put func(i int, left, used []int)
	put = func(i int, left, used []int) {
		if i == len(needs) {
			if len(used) < fewest {
				fewest, best = len(used), slices.Clone(way)
			}
			return
		}
		for k, rest := range left {
			if s[k].Material != material || rest < needs[i] {
				continue
			}
			way[i] = k
			next := slices.Clone(left)
			next[k] -= needs[i]
			if slices.Contains(used, k) {
				put(i+1, next, used)
			} else {
				put(i+1, next, append(slices.Clone(used), k))
			}
		}
	}
	var left []int
	for _, one := range s {
		left = append(left, one.Left)
	}
	put(0, left, nil)
	return best, fewest <= len(needs)
}

// P7.4: Fits agrees with all ways that are tried one by one.
func TestRandomFits(t *testing.T) {
	r := rand.New(rand.NewSource(8))
	found := 0
	for range 3000 {
		s := randomSpools(r, 6, 14)
		var needs []int
		for range r.Intn(6) {
			needs = append(needs, 1+r.Intn(7))
		}
		want, is := packed(s, "m", needs)
		l, ok, e := flow.Fits(s, "m", needs)
		if e != api.OK || ok != is || !slices.Equal(l, want) {
			t.Fatal(s, needs, l, want, ok, is, e)
		}
		if is && len(needs) > 2 {
			found++
		}
	}
	if found < 300 {
		t.Error(found)
	}
}

// P7.4: only spools of the material are used; indices are those of all spools.
func TestMaterials(t *testing.T) {
	s := []api.Spool{spool("a", "pet", 900), spool("b", "pla", 50), spool("c", "pet", 900), spool("d", "pla", 60), spool("e", "pla-2", 900)}
	if l, is, e := flow.Fits(s, "pla", list(60, 20)); e != api.OK || !is || !slices.Equal(l, list(3, 1)) {
		t.Error(l, is, e)
	}
	if l, is, e := flow.Fits(s, "pet", list(900, 900)); e != api.OK || !is || !slices.Equal(l, list(0, 2)) {
		t.Error(l, is, e)
	}
	for _, c := range []struct {
		material string
		need     int
		want     []string
		is       bool
	}{
		{"pla", 110, []string{"b", "d"}, true},
		{"pla", 111, nil, false},
		{"pla", 60, []string{"d"}, true},
		{"pet", 901, []string{"a", "c"}, true},
		{"pet", 900, []string{"a"}, true},
		{"abs", 0, nil, true},
		{"abs", 1, nil, false},
	} {
		if l, is, e := flow.Changes(s, c.material, c.need); e != api.OK || is != c.is || !slices.Equal(l, c.want) {
			t.Error(c, l, is, e)
		}
	}
	if l, is, e := flow.Fits(s, "abs", list(1)); e != api.OK || is || len(l) > 0 {
		t.Error(l, is, e)
	}
	if l, is, e := flow.Fits(s, "abs", nil); e != api.OK || !is || len(l) > 0 {
		t.Error(l, is, e)
	}
}

// P7.4: the largest arguments are done in time.
func TestLargestFits(t *testing.T) {
	s := spools(slices.Repeat(list(17), api.MaxSpools)...)
	if l, is, e := flow.Fits(s, "m", list(9, 8, 7, 6, 5, 4, 3, 2)); e != api.OK || !is || !slices.Equal(l, list(0, 0, 1, 1, 2, 1, 2, 2)) {
		t.Error(l, is, e)
	}
	s = spools(slices.Repeat(list(api.MaxFilament), api.MaxSpools)...)
	if l, is, e := flow.Fits(s, "m", slices.Repeat(list(api.MaxFilament), api.MaxNeeds)); e != api.OK || !is || !slices.Equal(l, list(0, 1, 2, 3, 4, 5, 6, 7)) {
		t.Error(l, is, e)
	}
	s = append(spools(slices.Repeat(list(1), api.MaxSpools-1)...), spool("z", "m", 8))
	if l, is, e := flow.Fits(s, "m", slices.Repeat(list(1), api.MaxNeeds)); e != api.OK || !is || !slices.Equal(l, slices.Repeat(list(49), api.MaxNeeds)) {
		t.Error(l, is, e)
	}
	s = spools(slices.Repeat(list(api.MaxFilament), api.MaxSpools)...)
	keys, is, e := flow.Changes(s, "m", api.MaxSpools*api.MaxFilament)
	if e != api.OK || !is || len(keys) != api.MaxSpools || keys[0] != "k00" || keys[49] != "k49" {
		t.Error(keys, is, e)
	}
	if keys, is, e := flow.Changes(s, "m", api.MaxSpools*api.MaxFilament+1); e != api.OK || is || len(keys) > 0 {
		t.Error(keys, is, e)
	}
}

// P7.4: as few spools as possible that have enough together, the earliest ones.
func TestChanges(t *testing.T) {
	for _, c := range []struct {
		left []int
		need int
		want []string
		is   bool
	}{
		{nil, 0, nil, true},
		{nil, 1, nil, false},
		{list(5), 0, nil, true},
		{list(0), 1, nil, false},
		{list(0, 5), 5, []string{"k01"}, true},
		{list(5, 5), 5, []string{"k00"}, true},
		{list(5, 5), 6, []string{"k00", "k01"}, true},
		{list(5, 5), 11, nil, false},
		{list(5, 6, 7), 6, []string{"k01"}, true},
		{list(5, 6, 7), 12, []string{"k00", "k02"}, true},
		{list(5, 6, 7), 11, []string{"k00", "k01"}, true},
		{list(5, 6, 7), 13, []string{"k01", "k02"}, true},
		{list(5, 6, 7), 14, []string{"k00", "k01", "k02"}, true},
		{list(1, 9, 2, 8, 3, 7), 10, []string{"k00", "k01"}, true},
		{list(1, 9, 2, 8, 3, 7), 18, []string{"k00", "k01", "k03"}, true},
		{list(1, 9, 2, 8, 3, 7), 17, []string{"k01", "k03"}, true},
		{list(1, 9, 2, 8, 3, 7), 23, []string{"k01", "k03", "k05"}, true},
	} {
		if l, is, e := flow.Changes(spools(c.left...), "m", c.need); e != api.OK || is != c.is || !slices.Equal(l, c.want) {
			t.Error(c.left, c.need, l, is, e)
		}
	}
}

// chosen tries all sets of spools; smaller ones first, earlier ones before later ones.
func chosen(s []api.Spool, material string, need int) ([]string, bool) {
	var best []string
	is := false
	for set := range 1 << len(s) {
		var keys []string
		left := 0
		for i, one := range s {
			if set>>i&1 == 1 {
				keys = append(keys, one.Key)
				left += one.Left
				if one.Material != material {
					left = -1 << 40
				}
			}
		}
		if left < need {
			continue
		}
		if !is || len(keys) < len(best) || len(keys) == len(best) && slices.Compare(keys, best) < 0 {
			best, is = keys, true
		}
	}
	return best, is
}

// P7.4: Changes agrees with all sets that are tried one by one.
func TestRandomChanges(t *testing.T) {
	r := rand.New(rand.NewSource(9))
	for range 2000 {
		most := []int{9, api.MaxFilament}[r.Intn(2)]
		s, need := randomSpools(r, 7, most), r.Intn(4*most)
		want, is := chosen(s, "m", need)
		l, ok, e := flow.Changes(s, "m", need)
		if e != api.OK || ok != is || !slices.Equal(l, want) {
			t.Fatal(s, need, l, want, ok, is, e)
		}
	}
}

// P7.4: the errors of Fits and Changes, and the first one of several.
func TestWrongFits(t *testing.T) {
	s := spools(5, 6)
	tooMany := slices.Repeat(list(1), api.MaxNeeds+1)
	for _, material := range []string{"", "M", "m m", "1", "m\n"} {
		fails(t, material, api.ErrName, fits(s, material, list(1)), fits(s, material, tooMany), fits(nil, material, nil), fits(s, material, list(0)))
		fails(t, material, api.ErrName, changes(s, material, 1), changes(nil, material, 0), changes(s, material, -1))
	}
	fails(t, "too many", api.ErrLarge, fits(s, "m", tooMany), fits(nil, "m", tooMany), fits(s, "m", slices.Repeat(list(0), api.MaxNeeds+1)))
	for _, need := range []int{least, -1, 0, api.MaxFilament + 1, greatest} {
		fails(t, need, api.ErrArg, fits(s, "m", list(need)), fits(s, "m", list(1, need)), fits(s, "m", list(500, need, 1)), fits(nil, "m", list(need)))
	}
	for _, need := range []int{least, -1, 1_000_000_000_001, greatest} {
		fails(t, need, api.ErrArg, changes(s, "m", need), changes(nil, "m", need))
	}
	if l, is, e := flow.Changes(s, "m", 1_000_000_000_000); e != api.OK || is || len(l) > 0 {
		t.Error(l, is, e)
	}
	if l, is, e := flow.Fits(s, "m", list(1, api.MaxFilament)); e != api.OK || is || len(l) > 0 {
		t.Error(l, is, e)
	}
}
