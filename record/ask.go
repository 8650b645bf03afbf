package record

import (
	"cmp"
	"slices"
	"strings"

	"beadlayer/api"
	"beadlayer/exact"
	"beadlayer/terms"
)

// bookAt validates notes and a moment, and follows the notes up to it.
func bookAt(n []api.Note, at int) (*book, api.Errno) {
	if e := checkBoth(n, at); e != api.OK {
		return nil, e
	}
	return bookOf(n, at), api.OK
}

// Refused are the indices of the notes that are refused, and why.
func Refused(n []api.Note, at int) ([]int, []api.Errno, api.Errno) {
	b, e := bookAt(n, at)
	if e != api.OK {
		return nil, nil, e
	}
	return b.refused, b.reasons, api.OK
}

// Running is which job runs at each printer.
func Running(n []api.Note, at int) ([]api.Pair, api.Errno) {
	b, e := bookAt(n, at)
	if e != api.OK {
		return nil, e
	}
	return b.runningPairs(), api.OK
}

// Jobs are the states of all jobs that have begun.
func Jobs(n []api.Note, at int) ([]api.Pair, api.Errno) {
	b, e := bookAt(n, at)
	if e != api.OK {
		return nil, e
	}
	return b.jobPairs(), api.OK
}

// Progress is how many layers of a job are printed, and how many it has.
func Progress(n []api.Note, job string, at int) (int, int, api.Errno) {
	b, e := bookAt(n, at)
	if e != api.OK {
		return 0, 0, e
	}
	return b.progress(job)
}

// Filament is how much is left on the spools of printers.
func Filament(n []api.Note, at int) ([]api.Pair, api.Errno) {
	b, e := bookAt(n, at)
	if e != api.OK {
		return nil, e
	}
	return b.filamentPairs(), api.OK
}

// Used is how much of a spool has been used.
func Used(n []api.Note, spool string, at int) (int, api.Errno) {
	b, e := bookAt(n, at)
	if e != api.OK {
		return 0, e
	}
	return b.used(spool)
}

// Pace is how long a layer of a job takes.
func Pace(n []api.Note, job string, at int) (api.Fraction, bool, api.Errno) {
	b, e := bookAt(n, at)
	if e != api.OK {
		return api.Fraction{}, false, e
	}
	return b.pace(job)
}

// Done are the jobs that were done within a window.
func Done(n []api.Note, w api.Window) ([]string, api.Errno) {
	if e := CheckNotes(n); e != api.OK {
		return nil, e
	}
	if !terms.IsWindow(w) {
		return nil, api.ErrArg
	}
	var within []*job
	for _, j := range bookOf(n, w.To-1).jobs {
		if j.state == done && j.ended >= w.From {
			within = append(within, j)
		}
	}
	slices.SortFunc(within, func(a, b *job) int { return cmp.Or(cmp.Compare(a.ended, b.ended), strings.Compare(a.name, b.name)) })
	var list []string
	for _, j := range within {
		list = append(list, j.name)
	}
	return list, api.OK
}

// Failed is the part of jobs that failed.
func Failed(n []api.Note, at int) (api.Fraction, api.Errno) {
	b, e := bookAt(n, at)
	if e != api.OK {
		return api.Fraction{}, e
	}
	bad, good := b.count(failed), b.count(done)
	if bad+good == 0 {
		return api.Fraction{}, api.ErrNone
	}
	return exact.Lowest(bad, bad+good), api.OK
}
