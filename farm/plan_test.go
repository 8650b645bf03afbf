package farm_test

import (
	"math/rand"
	"reflect"
	"slices"
	"testing"

	"beadlayer/api"
	"beadlayer/farm"
)

// endOf is when the job at a place of a printer's list ends, as P9.2 says it: the minutes of all jobs up to it, and a change for each one whose material differs from that of the one before.
func endOf(p api.Printer, j []api.Job, order []int, minutes int) int {
	end := 0
	for at, i := range order {
		before := p.Material
		if at > 0 {
			before = j[order[at-1]].Material
		}
		if before != j[i].Material {
			end += minutes
		}
		end += j[i].Minutes
	}
	return end
}

// endsOf are when all jobs of a plan end.
func endsOf(p []api.Printer, j []api.Job, plan [][]int, minutes int) []int {
	all := make([]int, len(j))
	for k, order := range plan {
		for at, i := range order {
			all[i] = endOf(p[k], j, order[:at+1], minutes)
		}
	}
	return all
}

func sumOf(n []int) int {
	sum := 0
	for _, x := range n {
		sum += x
	}
	return sum
}

// lateOf are by how many minutes jobs are late, and their keys.
func lateOf(j []api.Job, all []int) (int, []string) {
	sum := 0
	var keys []string
	for i, x := range j {
		if all[i] > x.Due {
			sum += all[i] - x.Due
			keys = append(keys, x.Key)
		}
	}
	return sum, keys
}

// P9.2: a job ends after those before it, and after the changes between them, also that of the first one.
func TestEnds(t *testing.T) {
	for _, c := range []struct {
		plan    [][]int
		minutes int
		want    []int
		latest  int
		late    int
		keys    []string
	}{
		{lists(list(2, 0), list(1)), 10, list(50, 20, 20), 50, 20, []string{"j0", "j1"}},
		{lists(list(0, 2), list(1)), 10, list(30, 20, 50), 50, 30, []string{"j1", "j2"}},
		{lists(nil, list(1, 0, 2)), 10, list(60, 20, 80), 80, 80, []string{"j0", "j1", "j2"}},
		{lists(nil, list(0, 1, 2)), 10, list(40, 70, 100), 100, 130, []string{"j1", "j2"}},
		{lists(nil, list(0, 1, 2)), 0, list(30, 50, 70), 70, 80, []string{"j1", "j2"}},
		{lists(list(1), list(0, 2)), 0, list(30, 20, 50), 50, 30, []string{"j1", "j2"}},
		{lists(list(1), list(2, 0)), api.MaxMinutes, list(100_050, 100_020, 100_020), 100_050, 300_010, []string{"j0", "j1", "j2"}},
	} {
		if l, n, e := farm.Ends(samplePrinters(), sampleJobs(), c.plan, c.minutes); e != api.OK || n != c.latest || !slices.Equal(l, c.want) {
			t.Error(c.plan, c.minutes, l, n, e)
		}
		if n, l, e := farm.Late(samplePrinters(), sampleJobs(), c.plan, c.minutes); e != api.OK || n != c.late || !slices.Equal(l, c.keys) {
			t.Error(c.plan, c.minutes, n, l, e)
		}
	}
	if l, n, e := farm.Ends(samplePrinters(), nil, make([][]int, 2), 5); e != api.OK || n != 0 || len(l) > 0 {
		t.Error(l, n, e)
	}
	if n, l, e := farm.Late(samplePrinters(), nil, make([][]int, 2), 5); e != api.OK || n != 0 || len(l) > 0 {
		t.Error(n, l, e)
	}
}

// P9.2: a job that ends at the minute at which it is due is not late.
func TestDue(t *testing.T) {
	j := []api.Job{job("a", "m", 5, 4), job("b", "m", 5, 10), job("c", "m", 5, 16), job("d", "n", 5, 29)}
	if n, l, e := farm.Late(printers("m"), j, lists(list(0, 1, 2, 3)), 10); e != api.OK || n != 2 || !slices.Equal(l, []string{"a", "d"}) {
		t.Error(n, l, e)
	}
}

// P9.2: Ends and Late of random plans.
func TestRandomEnds(t *testing.T) {
	r := rand.New(rand.NewSource(1))
	for range 2000 {
		p, j, minutes := randomPrinters(r, 5), randomJobs(r, 12), r.Intn(9)
		plan := randomPlan(r, len(p), len(j))
		want := endsOf(p, j, plan, minutes)
		if l, n, e := farm.Ends(p, j, plan, minutes); e != api.OK || !slices.Equal(l, want) || n != slices.Max(append(want, 0)) {
			t.Fatal(p, j, plan, minutes, l, n, e)
		}
		sum, keys := lateOf(j, want)
		if n, l, e := farm.Late(p, j, plan, minutes); e != api.OK || n != sum || !slices.Equal(l, keys) {
			t.Fatal(p, j, plan, minutes, n, l, e)
		}
	}
}

// P9.2: as many jobs as there can be, as long as they can be, with a change before each.
func TestMostJobs(t *testing.T) {
	j := alike(api.MaxJobs)
	var order, want []int
	for i := range j {
		j[i].Material, j[i].Minutes = []string{"m", "n"}[i%2], api.MaxMinutes
		order = append(order, i)
		want = append(want, (i+1)*2*api.MaxMinutes)
	}
	p := printers(slices.Repeat([]string{"n"}, api.MaxPrinters)...)
	plan := make([][]int, api.MaxPrinters)
	plan[30] = order
	if l, n, e := farm.Ends(p, j, plan, api.MaxMinutes); e != api.OK || n != 100_000_000 || !slices.Equal(l, want) {
		t.Error(l, n, e)
	}
	if n, l, e := farm.Late(p, j, plan, api.MaxMinutes); e != api.OK || n != sumOf(want) || len(l) != api.MaxJobs {
		t.Error(n, l, e)
	}
	if n, e := farm.Bound(p, j); e != api.OK || n != 1_000_000 {
		t.Error(n, e)
	}
	plan, n, e := farm.Greedy(p, j, api.MaxMinutes)
	if e != api.OK || n != 1_100_000 || farm.CheckPlan(p, j, plan) != api.OK {
		t.Error(plan, n, e)
	}
}

// P9.2, P9.3: the errors of change, after those of the plan, of printers, and of jobs.
func TestWrongChange(t *testing.T) {
	p, j, plan := samplePrinters(), sampleJobs(), lists(list(0, 2), list(1))
	for _, minutes := range []int{least, -1, api.MaxMinutes + 1, greatest} {
		fails(t, minutes, api.ErrArg, ends(p, j, plan, minutes), late(p, j, plan, minutes), earliest(p, j, minutes), greedy(p, j, minutes), leastLate(p[0], j, minutes))
		fails(t, minutes, api.ErrArg, ends(p, nil, make([][]int, 2), minutes), late(p, nil, make([][]int, 2), minutes), earliest(p, nil, minutes), greedy(p, nil, minutes), leastLate(p[0], nil, minutes))
	}
	for _, minutes := range []int{0, api.MaxMinutes} {
		for _, f := range append(withBoth(p, j, plan, minutes), leastLate(p[0], j, minutes)) {
			if _, e := f.run(); e != api.OK {
				t.Error(f.name, minutes, e)
			}
		}
	}
}

// P9.2: the sum of all minutes divided by the number of printers, rounded up, or those of the longest job.
func TestBound(t *testing.T) {
	for _, c := range []struct {
		printers int
		minutes  []int
		want     int
	}{
		{1, nil, 0},
		{3, nil, 0},
		{1, list(5, 7, 1), 13},
		{2, list(30, 20, 20), 35},
		{2, list(30, 20, 21), 36},
		{3, list(30, 20, 20), 30},
		{3, list(30, 30, 31), 31},
		{3, list(30, 30, 30, 1), 31},
		{3, list(30, 30, 30, 2), 31},
		{3, list(30, 30, 30, 3), 31},
		{3, list(30, 30, 30, 4), 32},
		{50, list(1), 1},
		{50, list(1, api.MaxMinutes, 1), api.MaxMinutes},
	} {
		j := alike(len(c.minutes))
		for i, n := range c.minutes {
			j[i].Minutes = n
		}
		if n, e := farm.Bound(printers(slices.Repeat([]string{"x"}, c.printers)...), j); e != api.OK || n != c.want {
			t.Error(c, n, e)
		}
	}
}

// P9.3: each job where it ends earliest, on the first one of several printers.
func TestGreedy(t *testing.T) {
	for _, c := range []struct {
		p       []api.Printer
		j       []api.Job
		minutes int
		want    [][]int
		latest  int
	}{
		{samplePrinters(), nil, 5, lists(nil, nil), 0},
		{samplePrinters(), sampleJobs(), 10, lists(list(0, 2), list(1)), 50},
		{samplePrinters(), sampleJobs(), 9, lists(list(0), list(1, 2)), 49},
		{samplePrinters(), sampleJobs(), 11, lists(list(0, 2), list(1)), 50},
		{samplePrinters(), sampleJobs(), 0, lists(list(0), list(1, 2)), 40},
		{printers("m", "m", "m"), alike(7), 5, lists(list(0, 3, 6), list(1, 4), list(2, 5)), 3},
		{printers("n", "m", "m"), alike(5), 1, lists(list(2), list(0, 3), list(1, 4)), 2},
		{printers("n", "m", "m"), alike(5), 2, lists(list(4), list(0, 2), list(1, 3)), 3},
		{printers("n", "n", "m"), alike(6), 3, lists(list(3), list(4), list(0, 1, 2, 5)), 4},
		{printers("n"), alike(3), 3, lists(list(0, 1, 2)), 6},
	} {
		plan, n, e := farm.Greedy(c.p, c.j, c.minutes)
		if e != api.OK || n != c.latest || !samePlan(plan, c.want) {
			t.Error(c, plan, n, e)
		}
	}
}

func samePlan(a, b [][]int) bool {
	return slices.EqualFunc(a, b, func(x, y []int) bool { return slices.Equal(x, y) })
}

// P9.3: Greedy puts each job where it ends earliest after those before it.
func TestRandomGreedy(t *testing.T) {
	r := rand.New(rand.NewSource(2))
	for range 2000 {
		p, j, minutes := randomPrinters(r, 5), randomJobs(r, 12), r.Intn(9)
		want := make([][]int, len(p))
		for i := range j {
			first := 0
			for k := range p {
				if endOf(p[k], j, append(slices.Clone(want[k]), i), minutes) < endOf(p[first], j, append(slices.Clone(want[first]), i), minutes) {
					first = k
				}
			}
			want[first] = append(want[first], i)
		}
		plan, n, e := farm.Greedy(p, j, minutes)
		if e != api.OK || !samePlan(plan, want) || n != slices.Max(append(endsOf(p, j, plan, minutes), 0)) {
			t.Fatal(p, j, minutes, plan, n, e)
		}
		if lowest, e := farm.Bound(p, j); e != api.OK || n < lowest {
			t.Fatal(p, j, minutes, n, lowest, e)
		}
	}
}

// Z2: the lists of a plan share no memory: what is put behind one of them is in no other one.
func TestOwnLists(t *testing.T) {
	p, j := printers("m", "m", "m", "m"), alike(api.MaxScheduled)
	first, _, _ := farm.Earliest(p, j, 1)
	second, _, _ := farm.Greedy(p, j, 1)
	for _, plan := range [][][]int{first, second} {
		before := make([][]int, len(plan))
		for k, order := range plan {
			before[k] = slices.Clone(order)
		}
		for _, order := range plan {
			_ = append(order, -1)
		}
		if len(plan) != 4 || !reflect.DeepEqual(plan, before) {
			t.Error(plan, before)
		}
	}
}
