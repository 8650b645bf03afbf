package farm

import (
	"cmp"
	"slices"

	"beadlayer/api"
)

// cost is by what plans are compared: by most, then by sum.
type cost struct{ most, sum int }

func (c cost) less(d cost) bool {
	return cmp.Or(cmp.Compare(c.most, d.most), cmp.Compare(c.sum, d.sum)) < 0
}

// search goes through the plans in their lexicographical order, and keeps the first one with the least cost.
type search struct {
	printers []api.Printer
	jobs     []api.Job
	change   int
	grown    func(c cost, j api.Job, end int) cost // the cost with one more job, which ends then; it is not less than c

	plan   [][]int // that is looked at
	placed []bool  // for each job, whether it is in the plan

	best  [][]int // nil before there is one
	least cost
}

// bestPlan is the plan with the least cost, of several the lexicographically smallest one, and its cost.
func bestPlan(p []api.Printer, j []api.Job, change int, grown func(c cost, j api.Job, end int) cost) ([][]int, cost) {
	s := search{printers: p, jobs: j, change: change, grown: grown, plan: make([][]int, len(p)), placed: make([]bool, len(j))}
	s.visit(0, shiftOf(p[0]), cost{})
	return s.best, s.least
}

// visit goes through the plans that begin with the one that is looked at. Its last list is that of the printer k, which comes to a shift.
func (s *search) visit(k int, at shift, c cost) {
	if s.best != nil && !c.less(s.least) {
		return
	}
	if !slices.Contains(s.placed, false) {
		s.keep(c)
		return
	}
	if k+1 < len(s.printers) {
		s.visit(k+1, shiftOf(s.printers[k+1]), c)
	}
	for i, job := range s.jobs {
		if s.placed[i] {
			continue
		}
		next := at.after(job, s.change)
		s.plan[k] = append(s.plan[k], i)
		s.placed[i] = true
		s.visit(k, next, s.grown(c, job, next.end))
		s.plan[k] = s.plan[k][:len(s.plan[k])-1]
		s.placed[i] = false
	}
}

func (s *search) keep(c cost) {
	s.best, s.least = nil, c
	for _, list := range s.plan {
		s.best = append(s.best, slices.Clone(list))
	}
}

// Earliest is the plan with the earliest latest end.
func Earliest(p []api.Printer, j []api.Job, change int) ([][]int, int, api.Errno) {
	if e := checkBoth(p, j); e != api.OK {
		return nil, 0, e
	}
	if e := checkChange(change); e != api.OK {
		return nil, 0, e
	}
	if len(j) > api.MaxScheduled || len(p) > api.MaxTogether {
		return nil, 0, api.ErrLarge
	}
	plan, least := bestPlan(p, j, change, func(c cost, _ api.Job, end int) cost {
		return cost{most: max(c.most, end), sum: c.sum + end}
	})
	return plan, least.most, api.OK
}

// LeastLate is the order of jobs on one printer with the fewest minutes late.
func LeastLate(p api.Printer, j []api.Job, change int) ([]int, int, api.Errno) {
	alone := []api.Printer{p}
	if e := checkBoth(alone, j); e != api.OK {
		return nil, 0, e
	}
	if e := checkChange(change); e != api.OK {
		return nil, 0, e
	}
	if len(j) > api.MaxScheduled {
		return nil, 0, api.ErrLarge
	}
	plan, least := bestPlan(alone, j, change, func(c cost, j api.Job, end int) cost {
		return cost{sum: c.sum + lateness(j, end)}
	})
	return plan[0], least.sum, api.OK
}
