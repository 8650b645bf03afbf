package farm_test

import (
	"slices"
	"strings"
	"testing"

	"beadlayer/api"
	"beadlayer/farm"
)

// notKeys are strings that are no keys.
func notKeys() []string {
	return []string{"", "A", "1a", "-", "_a", "a b", "a ", " a", "a\n", "ä", "a\x00", "\xff", strings.Repeat("a", api.MaxName+1)}
}

// wrongPrinters are printers with each error of CheckPrinters, at its bounds, and with several of them.
func wrongPrinters() []struct {
	name string
	p    []api.Printer
	e    api.Errno
} {
	a := printer("a", "m")
	return []struct {
		name string
		p    []api.Printer
		e    api.Errno
	}{
		{"none", nil, api.ErrNone},
		{"an empty list", []api.Printer{}, api.ErrNone},
		{"too many", printers(slices.Repeat([]string{"m"}, api.MaxPrinters+1)...), api.ErrLarge},
		{"too many that are wrong", make([]api.Printer, api.MaxPrinters+1), api.ErrLarge},
		{"twice", []api.Printer{a, a}, api.ErrOrder},
		{"not in order", []api.Printer{printer("b", "m"), a}, api.ErrOrder},
		{"not in the order of bytes", []api.Printer{printer("a_", "m"), printer("a-", "m")}, api.ErrOrder},
		{"the shorter one later", []api.Printer{printer("aa", "m"), a}, api.ErrOrder},
		{"no key, and not in order", []api.Printer{a, printer("", "m")}, api.ErrName},
		{"no material, and not in order", []api.Printer{a, printer("a", "")}, api.ErrName},
		{"not in order, before a wrong one", []api.Printer{a, a, printer("", "")}, api.ErrOrder},
		{"a wrong one, before one not in order", []api.Printer{printer("b", "B"), a}, api.ErrName},
	}
}

// P9.1: what is valid, at its bounds, and what is not.
func TestCheckPrinters(t *testing.T) {
	long := strings.Repeat("z", api.MaxName)
	for _, p := range [][]api.Printer{
		samplePrinters(),
		{printer("a", "m")},
		{printer("a", "m"), printer("a-", "m"), printer("a0", "z"), printer("a_", "m"), printer("aa", "b"), printer("b", "a"), printer(long, long)},
		printers(slices.Repeat([]string{"m"}, api.MaxPrinters)...),
	} {
		if e := farm.CheckPrinters(p); e != api.OK {
			t.Error(p, e)
		}
	}
	for _, c := range wrongPrinters() {
		fails(t, c.name, c.e, checkPrinters(c.p))
	}
	for _, s := range notKeys() {
		fails(t, s, api.ErrName, checkPrinters([]api.Printer{printer(s, "m")}), checkPrinters([]api.Printer{printer("a", s)}))
		fails(t, s, api.ErrName, checkPrinters([]api.Printer{printer("a", "m"), printer(s, "m")}), checkPrinters([]api.Printer{printer("a", "m"), printer("b", s)}))
	}
}

// wrongJobs are jobs with each error of CheckJobs, at its bounds, and with several of them.
func wrongJobs() []struct {
	name string
	j    []api.Job
	e    api.Errno
} {
	a := job("a", "m", 1, 0)
	return []struct {
		name string
		j    []api.Job
		e    api.Errno
	}{
		{"too many", alike(api.MaxJobs + 1), api.ErrLarge},
		{"too many that are wrong", make([]api.Job, api.MaxJobs+1), api.ErrLarge},
		{"no minutes", []api.Job{job("a", "m", 0, 0)}, api.ErrArg},
		{"minutes below 0", []api.Job{a, job("b", "m", -1, 0)}, api.ErrArg},
		{"the least minutes", []api.Job{job("a", "m", least, 0)}, api.ErrArg},
		{"too many minutes", []api.Job{job("a", "m", api.MaxMinutes+1, 0)}, api.ErrArg},
		{"the most minutes", []api.Job{job("a", "m", greatest, 0)}, api.ErrArg},
		{"due too early", []api.Job{job("a", "m", 1, -1)}, api.ErrArg},
		{"due at the least minute", []api.Job{job("a", "m", 1, least)}, api.ErrArg},
		{"due too late", []api.Job{a, job("b", "m", 1, maxDue+1)}, api.ErrArg},
		{"due at the greatest minute", []api.Job{job("a", "m", 1, greatest)}, api.ErrArg},
		{"no key, no minutes", []api.Job{job("", "m", 0, 0)}, api.ErrName},
		{"no material, due too early", []api.Job{job("a", "", 1, -1)}, api.ErrName},
		{"no key, not in order", []api.Job{a, job("", "m", 1, 0)}, api.ErrName},
		{"no minutes, not in order", []api.Job{a, job("a", "m", 0, 0)}, api.ErrArg},
		{"due too late, not in order", []api.Job{a, job("a", "m", 1, maxDue+1)}, api.ErrArg},
		{"twice", []api.Job{a, a}, api.ErrOrder},
		{"not in order", []api.Job{job("b", "m", 1, 0), a}, api.ErrOrder},
		{"not in the order of bytes", []api.Job{job("a_", "m", 1, 0), job("a-", "m", 1, 0)}, api.ErrOrder},
		{"not in order, before a wrong one", []api.Job{a, a, job("", "", 0, 0)}, api.ErrOrder},
		{"no minutes, before one without a key", []api.Job{job("a", "m", 0, 0), job("", "", 0, 0)}, api.ErrArg},
	}
}

// P9.1: what is valid, at its bounds, and what is not.
func TestCheckJobs(t *testing.T) {
	long := strings.Repeat("z", api.MaxName)
	for _, j := range [][]api.Job{
		nil,
		sampleJobs(),
		{job("a", "m", 1, 0), job("a-", "m", api.MaxMinutes, maxDue), job("a0", "z", 5, 5), job("a_", "m", 5, 1), job("aa", "b", 1, 1), job(long, long, 1, 1)},
		alike(api.MaxJobs),
	} {
		if e := farm.CheckJobs(j); e != api.OK {
			t.Error(j, e)
		}
	}
	for _, c := range wrongJobs() {
		fails(t, c.name, c.e, checkJobs(c.j))
	}
	for _, s := range notKeys() {
		fails(t, s, api.ErrName, checkJobs([]api.Job{job(s, "m", 1, 0)}), checkJobs([]api.Job{job("a", s, 1, 0)}))
		fails(t, s, api.ErrName, checkJobs([]api.Job{job("a", "m", 1, 0), job(s, "m", 1, 0)}), checkJobs([]api.Job{job("a", "m", 1, 0), job("b", s, 1, 0)}))
	}
}

// P9.1, P9.3: all functions with printers and jobs return their errors first, before all others.
func TestWrongPrintersAndJobs(t *testing.T) {
	for _, c := range wrongPrinters() {
		for _, j := range [][]api.Job{nil, sampleJobs(), make([]api.Job, api.MaxJobs+1)} {
			fails(t, c.name, c.e, withBoth(c.p, j, nil, 0)...)
			fails(t, c.name, c.e, withBoth(c.p, j, lists(list(0), list(0)), -1)...)
		}
		if len(c.p) == 1 {
			fails(t, c.name, c.e, leastLate(c.p[0], nil, 0), leastLate(c.p[0], make([]api.Job, 1), -1))
		}
	}
	for _, c := range wrongJobs() {
		fails(t, c.name, c.e, withBoth(samplePrinters(), c.j, make([][]int, 2), 0)...)
		fails(t, c.name, c.e, withBoth(samplePrinters(), c.j, nil, -1)...)
		fails(t, c.name, c.e, leastLate(printer("a", "m"), c.j, 0), leastLate(printer("a", "m"), c.j, -1))
		fails(t, c.name, api.ErrName, leastLate(printer("", "m"), c.j, 0), leastLate(printer("a", "M"), c.j, -1))
	}
}

// P9.1: each job is in one list, and there is a list for each printer.
func TestCheckPlan(t *testing.T) {
	for _, c := range []struct {
		plan [][]int
		e    api.Errno
	}{
		{lists(list(2, 0), list(1)), api.OK},
		{lists(nil, list(1, 2, 0)), api.OK},
		{lists(list(0, 1, 2), nil), api.OK},
		{nil, api.ErrForm},
		{lists(list(0, 1, 2)), api.ErrForm},
		{lists(list(0), list(1), list(2)), api.ErrForm},
		{lists(list(0, 1, 2), nil, nil), api.ErrForm},
		{lists(list(-1, 0, 0)), api.ErrForm},
		{lists(list(-1), list(0, 1, 2)), api.ErrArg},
		{lists(list(0, 1, 2), list(3)), api.ErrArg},
		{lists(list(0, least), nil), api.ErrArg},
		{lists(list(0, greatest), nil), api.ErrArg},
		{lists(list(3, 0, 0), nil), api.ErrArg},
		{lists(list(0, 0, 3), nil), api.ErrTwice},
		{lists(list(0, 1), list(2, 0)), api.ErrTwice},
		{lists(list(0, 1, 2), list(2)), api.ErrTwice},
		{lists(list(1), list(1)), api.ErrTwice},
		{lists(list(1), list(1, -1)), api.ErrTwice},
		{lists(list(1), list(-1, 1)), api.ErrArg},
		{lists(nil, nil), api.ErrNone},
		{lists(list(0), list(1)), api.ErrNone},
		{lists(list(1, 2), nil), api.ErrNone},
		{lists(slices.Repeat(list(1), 200_000), nil), api.ErrTwice},
	} {
		if e := farm.CheckPlan(samplePrinters(), sampleJobs(), c.plan); e != c.e {
			t.Errorf("%.100v %v", c.plan, e)
		}
		if c.e != api.OK {
			fails(t, c.plan, c.e, withPlan(samplePrinters(), sampleJobs(), c.plan, 0)...)
			fails(t, c.plan, c.e, withPlan(samplePrinters(), sampleJobs(), c.plan, -1)...)
		}
	}
	for _, plan := range [][][]int{{nil, nil}, {{}, {}}} {
		if e := farm.CheckPlan(samplePrinters(), nil, plan); e != api.OK {
			t.Error(plan, e)
		}
	}
	fails(t, "a job of none", api.ErrArg, withPlan(samplePrinters(), nil, lists(nil, list(0)), 0)...)
	fails(t, "a list of no printer", api.ErrForm, withPlan(samplePrinters(), nil, nil, 0)...)
}
