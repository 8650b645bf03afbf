package farm_test

import (
	"math/rand"
	"slices"
	"testing"

	"beadlayer/api"
	"beadlayer/farm"
)

// eachPlan gives all plans of the jobs from i on that are put into a plan at all places.
func eachPlan(plan [][]int, i, jobs int, visit func(plan [][]int)) {
	if i == jobs {
		visit(plan)
		return
	}
	for k, order := range plan {
		for at := range len(order) + 1 {
			plan[k] = slices.Insert(slices.Clone(order), at, i)
			eachPlan(plan, i+1, jobs, visit)
		}
		plan[k] = order
	}
}

func comparePlans(a, b [][]int) int {
	return slices.CompareFunc(a, b, func(x, y []int) int { return slices.Compare(x, y) })
}

// bestOf is the plan with the least costs, of several the lexicographically smallest one.
func bestOf(printers, jobs int, costs func(plan [][]int) []int) ([][]int, []int) {
	var best [][]int
	var fewest []int
	eachPlan(make([][]int, printers), 0, jobs, func(plan [][]int) {
		now := costs(plan)
		c := slices.Compare(now, fewest)
		if best == nil || c < 0 || c == 0 && comparePlans(plan, best) < 0 {
			best, fewest = slices.Clone(plan), now
		}
	})
	return best, fewest
}

// earliestOf is what P9.3 says, of all plans.
func earliestOf(p []api.Printer, j []api.Job, minutes int) ([][]int, int) {
	plan, costs := bestOf(len(p), len(j), func(plan [][]int) []int {
		all := endsOf(p, j, plan, minutes)
		return list(slices.Max(append(all, 0)), sumOf(all))
	})
	return plan, costs[0]
}

// P9.3: the earliest latest end, then the smallest sum of ends, then the lexicographically smallest plan.
func TestEarliest(t *testing.T) {
	long := []api.Job{job("a", "m", 9, 0), job("b", "m", 2, 0), job("c", "m", 1, 0)}
	for _, c := range []struct {
		p       []api.Printer
		j       []api.Job
		minutes int
		want    [][]int
		latest  int
	}{
		{samplePrinters(), nil, 5, lists(nil, nil), 0},
		{samplePrinters(), sampleJobs(), 10, lists(list(2, 0), list(1)), 50},
		{samplePrinters(), sampleJobs(), 0, lists(list(0), list(1, 2)), 40},
		{samplePrinters(), sampleJobs(), 9, lists(list(0), list(1, 2)), 49},
		{samplePrinters(), sampleJobs(), api.MaxMinutes, lists(list(2, 0), list(1)), 50},
		{printers("m"), long, 5, lists(list(2, 1, 0)), 12},
		{printers("n"), long, 5, lists(list(2, 1, 0)), 17},
		{printers("m", "m"), long, 5, lists(list(0), list(2, 1)), 9},
		{printers("m", "m", "m"), long, 5, lists(list(0), list(1), list(2)), 9},
		{printers("m", "m", "m", "m"), long, 5, lists(nil, list(0), list(1), list(2)), 9},
		{printers("n", "m"), long, 11, lists(nil, list(2, 1, 0)), 12},
		{printers("n", "m"), long, 10, lists(list(2), list(1, 0)), 11},
		{printers("n", "m"), long, 9, lists(list(1), list(2, 0)), 11},
		{printers("n", "m"), long, 5, lists(list(2, 1), list(0)), 9},
		{printers("m", "n"), long, 8, lists(list(2, 0), list(1)), 10},
		{printers("m", "m"), alike(4), 0, lists(list(0, 1), list(2, 3)), 2},
		{printers("m", "m"), alike(3), 0, lists(list(0), list(1, 2)), 2},
		{printers("m", "m", "m", "m"), alike(7), 0, lists(list(0), list(1, 2), list(3, 4), list(5, 6)), 2},
	} {
		plan, n, e := farm.Earliest(c.p, c.j, c.minutes)
		if e != api.OK || n != c.latest || !samePlan(plan, c.want) {
			t.Error(c, plan, n, e)
		}
	}
}

// P9.3: changes can make it better to leave the order of minutes.
func TestEarliestChanges(t *testing.T) {
	j := []api.Job{job("a", "m", 1, 0), job("b", "n", 2, 0), job("c", "m", 3, 0)}
	for _, c := range []struct {
		minutes int
		want    []int
		latest  int
	}{{0, list(0, 1, 2), 6}, {1, list(0, 2, 1), 7}, {9, list(0, 2, 1), 15}} {
		if plan, n, e := farm.Earliest(printers("m"), j, c.minutes); e != api.OK || n != c.latest || !samePlan(plan, lists(c.want)) {
			t.Error(c, plan, n, e)
		}
	}
}

// P9.3: Earliest is the best one of all plans; none ends earlier than Bound, and Greedy's not earlier than it.
func TestRandomEarliest(t *testing.T) {
	r := rand.New(rand.NewSource(3))
	for n := range 800 {
		p, j, minutes := randomPrinters(r, api.MaxTogether), randomJobs(r, 4), r.Intn(9)
		if n%100 == 0 {
			p, j = randomPrinters(r, 2), randomJobs(r, 6)
		}
		want, latest := earliestOf(p, j, minutes)
		plan, n, e := farm.Earliest(p, j, minutes)
		if e != api.OK || n != latest || !samePlan(plan, want) {
			t.Fatal(p, j, minutes, plan, n, e, want, latest)
		}
		_, later, _ := farm.Greedy(p, j, minutes)
		if lowest, e := farm.Bound(p, j); e != api.OK || lowest > n || later < n {
			t.Fatal(p, j, minutes, lowest, n, later)
		}
	}
}

// P9.3: as many jobs and printers as there can be.
func TestMostEarliest(t *testing.T) {
	p := printers("m", "n", "m", "o")
	j := alike(api.MaxScheduled)
	for i, minutes := range list(7, 3, 9, 4, 4, 1, 6) {
		j[i].Minutes, j[i].Material = minutes, []string{"m", "n"}[i%2]
	}
	want, latest := earliestOf(p, j, 2)
	if plan, n, e := farm.Earliest(p, j, 2); e != api.OK || n != latest || !samePlan(plan, want) {
		t.Error(plan, n, e, want, latest)
	}
	for i := range j {
		j[i].Minutes = api.MaxMinutes
	}
	if plan, n, e := farm.Earliest(printers("x", "x", "x", "x"), j, api.MaxMinutes); e != api.OK || n != 300_000 || farm.CheckPlan(p, j, plan) != api.OK {
		t.Error(plan, n, e)
	}
}

// P9.3: the errors of Earliest and LeastLate for too many jobs or printers, after that of change; Greedy and Bound take more.
func TestTooMany(t *testing.T) {
	four, five := printers("m", "m", "m", "m"), printers("m", "m", "m", "m", "m")
	seven, eight := alike(api.MaxScheduled), alike(api.MaxScheduled+1)
	fails(t, "jobs", api.ErrLarge, earliest(four, eight, 0), earliest(five, eight, 0), earliest(printers("m"), eight, 0), leastLate(four[0], eight, 0), leastLate(four[0], alike(api.MaxJobs), 0))
	fails(t, "printers", api.ErrLarge, earliest(five, seven, 0), earliest(five, nil, 0), earliest(printers(slices.Repeat([]string{"m"}, api.MaxPrinters)...), nil, 0))
	fails(t, "change, too", api.ErrArg, earliest(four, eight, -1), earliest(five, seven, api.MaxMinutes+1), leastLate(four[0], eight, -1))
	for _, f := range []call{earliest(four, seven, 0), leastLate(four[0], seven, 0), greedy(five, eight, 0), bound(five, eight)} {
		if _, e := f.run(); e != api.OK {
			t.Error(f.name, e)
		}
	}
}

// P9.3: the order with the fewest minutes late, of several the lexicographically smallest one.
func TestLeastLate(t *testing.T) {
	for _, c := range []struct {
		p       api.Printer
		j       []api.Job
		minutes int
		want    []int
		sum     int
	}{
		{printer("a", "p"), nil, 5, nil, 0},
		{printer("a", "p"), sampleJobs(), 10, list(2, 0, 1), 80},
		{printer("a", "q"), sampleJobs(), 10, list(1, 2, 0), 70},
		{printer("a", "p"), sampleJobs(), 0, list(1, 2, 0), 50},
		{printer("a", "m"), alike(4), 5, list(0, 1, 2, 3), 10},
		{printer("a", "n"), alike(4), 5, list(0, 1, 2, 3), 30},
		{printer("a", "m"), []api.Job{job("a", "m", 5, 90), job("b", "m", 4, 80), job("c", "m", 3, 3)}, 5, list(2, 0, 1), 0},
		{printer("a", "m"), []api.Job{job("a", "m", 5, 90), job("b", "m", 4, 80), job("c", "m", 3, 12)}, 5, list(0, 1, 2), 0},
		{printer("a", "m"), []api.Job{job("a", "m", 5, 90), job("b", "m", 4, 80), job("c", "m", 3, 11)}, 5, list(0, 2, 1), 0},
	} {
		if l, n, e := farm.LeastLate(c.p, c.j, c.minutes); e != api.OK || n != c.sum || !slices.Equal(l, c.want) {
			t.Error(c, l, n, e)
		}
	}
}

// P9.3: LeastLate is the best one of all orders, and is as late as Late tells.
func TestRandomLeastLate(t *testing.T) {
	r := rand.New(rand.NewSource(4))
	for n := range 800 {
		p, j, minutes := randomPrinters(r, 1), randomJobs(r, 5), r.Intn(9)
		if n%100 == 0 {
			j = randomJobs(r, api.MaxScheduled)
		}
		want, costs := bestOf(1, len(j), func(plan [][]int) []int {
			sum, _ := lateOf(j, endsOf(p, j, plan, minutes))
			return list(sum)
		})
		l, n, e := farm.LeastLate(p[0], j, minutes)
		if e != api.OK || n != costs[0] || !slices.Equal(l, want[0]) {
			t.Fatal(p, j, minutes, l, n, e, want, costs)
		}
		if sum, _, e := farm.Late(p, j, lists(l), minutes); e != api.OK || sum != n {
			t.Fatal(p, j, minutes, l, n, sum, e)
		}
	}
}
