package farm

import (
	"beadlayer/api"
	"beadlayer/exact"
)

// shift is a printer at work: the material that it has, and the minute at which its last job ends.
type shift struct {
	material string
	end      int
}

func shiftOf(p api.Printer) shift {
	return shift{material: p.Material}
}

// after is the shift after one more job.
func (s shift) after(j api.Job, change int) shift {
	if j.Material != s.material {
		s.end += change
	}
	return shift{material: j.Material, end: s.end + j.Minutes}
}

// lateness is how many minutes late a job is that ends at a minute.
func lateness(j api.Job, end int) int {
	return max(end-j.Due, 0)
}

// Ends are when all jobs end, and the latest one.
func Ends(p []api.Printer, j []api.Job, plan [][]int, change int) ([]int, int, api.Errno) {
	if e := CheckPlan(p, j, plan); e != api.OK {
		return nil, 0, e
	}
	if e := checkChange(change); e != api.OK {
		return nil, 0, e
	}
	ends := make([]int, len(j))
	latest := 0
	for k, list := range plan {
		s := shiftOf(p[k])
		for _, i := range list {
			s = s.after(j[i], change)
			ends[i] = s.end
		}
		latest = max(latest, s.end)
	}
	return ends, latest, api.OK
}

// Late is the sum of all minutes late, and the jobs that end late.
func Late(p []api.Printer, j []api.Job, plan [][]int, change int) (int, []string, api.Errno) {
	ends, _, e := Ends(p, j, plan, change)
	if e != api.OK {
		return 0, nil, e
	}
	sum := 0
	var keys []string
	for i, job := range j {
		if minutes := lateness(job, ends[i]); minutes > 0 {
			sum += minutes
			keys = append(keys, job.Key)
		}
	}
	return sum, keys, api.OK
}

// Bound is before when no plan ends.
func Bound(p []api.Printer, j []api.Job) (int, api.Errno) {
	if e := checkBoth(p, j); e != api.OK {
		return 0, e
	}
	sum, longest := 0, 0
	for _, job := range j {
		sum += job.Minutes
		longest = max(longest, job.Minutes)
	}
	return max(exact.Ceil(sum, len(p)), longest), api.OK
}

// Greedy puts each job where it ends earliest.
func Greedy(p []api.Printer, j []api.Job, change int) ([][]int, int, api.Errno) {
	if e := checkBoth(p, j); e != api.OK {
		return nil, 0, e
	}
	if e := checkChange(change); e != api.OK {
		return nil, 0, e
	}
	var shifts []shift
	for _, printer := range p {
		shifts = append(shifts, shiftOf(printer))
	}
	plan := make([][]int, len(p))
	latest := 0
	for i, job := range j {
		k := soonest(shifts, job, change)
		shifts[k] = shifts[k].after(job, change)
		plan[k] = append(plan[k], i)
		latest = max(latest, shifts[k].end)
	}
	return plan, latest, api.OK
}

// soonest is the first one of shifts after which a job ends earliest; there is at least one.
func soonest(shifts []shift, j api.Job, change int) int {
	first := 0
	for k, s := range shifts {
		if s.after(j, change).end < shifts[first].after(j, change).end {
			first = k
		}
	}
	return first
}
