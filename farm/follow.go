package farm

import (
	"beadlayer/api"
	"beadlayer/terms"
)

// Refused are the events that are refused, and why.
func Refused(p []api.Printer, l []api.Event) ([]int, []api.Errno, api.Errno) {
	if e := CheckEvents(p, l); e != api.OK {
		return nil, nil, e
	}
	var refused []int
	var reasons []api.Errno
	s := shopOf(p)
	for i, event := range l {
		if why := s.do(event); why != api.OK {
			refused = append(refused, i)
			reasons = append(reasons, why)
		}
	}
	return refused, reasons, api.OK
}

// At is what a printer does.
func At(p []api.Printer, l []api.Event, printer string, at int) (api.Standing, api.Errno) {
	if e := CheckEvents(p, l); e != api.OK {
		return api.Standing{}, e
	}
	place, is := places(p)[printer]
	if !is {
		return api.Standing{}, api.ErrNone
	}
	if !terms.IsMoment(at) {
		return api.Standing{}, api.ErrArg
	}
	return shopAt(p, l, at).standings[place], api.OK
}

// overlap is for how long two windows have the same moments.
func overlap(a, b api.Window) int {
	return max(min(a.To, b.To)-max(a.From, b.From), 0)
}

// Busy is how long each printer is busy in a window.
func Busy(p []api.Printer, l []api.Event, w api.Window) ([]int, api.Errno) {
	if e := CheckEvents(p, l); e != api.OK {
		return nil, e
	}
	if !terms.IsWindow(w) {
		return nil, api.ErrArg
	}
	times := make([]int, len(p))
	add := func(place int, standing api.Standing, until int) {
		if standing.State == api.PrinterBusy {
			times[place] += overlap(api.Window{From: standing.Since, To: until}, w)
		}
	}
	s := shopOf(p)
	for _, event := range l {
		place := s.places[event.Printer]
		before := s.standings[place]
		// What is not refused ends the job of a printer that is busy.
		if s.do(event) == api.OK {
			add(place, before, event.At)
		}
	}
	for place, standing := range s.standings {
		add(place, standing, w.To)
	}
	return times, api.OK
}

// Done are the jobs that are done, and those that have failed and are not done.
func Done(p []api.Printer, l []api.Event, at int) ([]string, []string, api.Errno) {
	if e := CheckEvents(p, l); e != api.OK {
		return nil, nil, e
	}
	if !terms.IsMoment(at) {
		return nil, nil, api.ErrArg
	}
	s := shopAt(p, l, at)
	done := s.keys(func(h history) bool { return h.done })
	failed := s.keys(func(h history) bool { return h.failed && !h.done })
	return done, failed, api.OK
}
