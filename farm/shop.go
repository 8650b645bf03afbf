package farm

import (
	"slices"

	"beadlayer/api"
)

// history is what has become of a job: whether it is on a printer now, is done, or has failed at least once.
type history struct{ on, done, failed bool }

// shop is what printers are doing, and what has become of the jobs that they began.
type shop struct {
	places    map[string]int
	standings []api.Standing
	jobs      map[string]history
}

// shopOf has printers as they are at first.
func shopOf(p []api.Printer) shop {
	s := shop{places: places(p), jobs: make(map[string]history)}
	for _, printer := range p {
		s.standings = append(s.standings, api.Standing{State: api.PrinterIdle, Material: printer.Material})
	}
	return s
}

// shopAt has printers as they are after all events up to a moment.
func shopAt(p []api.Printer, l []api.Event, at int) shop {
	s := shopOf(p)
	for _, event := range l {
		if event.At > at {
			break
		}
		s.do(event)
	}
	return s
}

// possible reports whether an event of a kind can happen with a printer in a state.
func possible(kind, state int) bool {
	switch kind {
	case api.EventStart, api.EventChange:
		return state == api.PrinterIdle
	case api.EventDone, api.EventFail:
		return state == api.PrinterBusy
	case api.EventStop:
		return state != api.PrinterStopped
	}
	return state == api.PrinterStopped
}

// stateAfter is the state to which an event of a kind brings a printer, if it brings it to another one.
func stateAfter(kind int) int {
	switch kind {
	case api.EventStart:
		return api.PrinterBusy
	case api.EventStop:
		return api.PrinterStopped
	}
	return api.PrinterIdle
}

// refusal is why an event is refused.
func (s *shop) refusal(e api.Event) api.Errno {
	if !possible(e.Kind, s.standings[s.places[e.Printer]].State) {
		return api.ErrState
	}
	if job := s.jobs[e.Job]; e.Kind == api.EventStart && (job.on || job.done) {
		return api.ErrTwice
	}
	return api.OK
}

// do does an event, or returns why it is refused.
func (s *shop) do(e api.Event) api.Errno {
	if why := s.refusal(e); why != api.OK {
		return why
	}
	standing := &s.standings[s.places[e.Printer]]
	if e.Kind == api.EventChange {
		standing.Material = e.Material
		return api.OK
	}
	if standing.State == api.PrinterBusy {
		s.end(standing.Job, e.Kind == api.EventDone)
	}
	if e.Kind == api.EventStart {
		s.begin(e.Job)
	}
	standing.State, standing.Since, standing.Job = stateAfter(e.Kind), e.At, e.Job
	return api.OK
}

func (s *shop) begin(job string) {
	h := s.jobs[job]
	h.on = true
	s.jobs[job] = h
}

// end takes a job from its printer: it is done, or has failed.
func (s *shop) end(job string, done bool) {
	h := s.jobs[job]
	s.jobs[job] = history{done: done, failed: h.failed || !done}
}

// keys are those of the jobs with such a history, sorted.
func (s *shop) keys(is func(h history) bool) []string {
	var keys []string
	for key, h := range s.jobs {
		if is(h) {
			keys = append(keys, key)
		}
	}
	slices.Sort(keys)
	return keys
}
