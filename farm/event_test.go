package farm_test

import (
	"slices"
	"strings"
	"testing"

	"beadlayer/api"
	"beadlayer/farm"
)

// wrongEvents are events of the printers b and d with each error of CheckEvents, and with several of them.
func wrongEvents() []struct {
	name string
	l    []api.Event
	e    api.Errno
} {
	good := stop(5, "b")
	return []struct {
		name string
		l    []api.Event
		e    api.Errno
	}{
		{"too many", slices.Repeat(events(good), api.MaxEvents+1), api.ErrLarge},
		{"too many that are wrong", make([]api.Event, api.MaxEvents+1), api.ErrLarge},
		{"before all moments", events(stop(-1, "b")), api.ErrArg},
		{"the least moment", events(good, stop(least, "b")), api.ErrArg},
		{"after all moments", events(good, stop(api.End, "b")), api.ErrArg},
		{"the greatest moment", events(stop(greatest, "b")), api.ErrArg},
		{"no moment, no kind", events(api.Event{At: -1, Printer: "b"}), api.ErrArg},
		{"no kind", events(api.Event{At: 5, Printer: "b"}), api.ErrKind},
		{"the kind before all", events(api.Event{At: 5, Kind: -1, Printer: "b"}), api.ErrKind},
		{"the kind after all", events(good, api.Event{At: 5, Kind: api.EventServe + 1, Printer: "b"}), api.ErrKind},
		{"the greatest kind", events(api.Event{At: 5, Kind: greatest, Printer: "b"}), api.ErrKind},
		{"no kind, no printer, too much", events(api.Event{At: 5, Job: "j", Material: "m"}), api.ErrKind},
		{"no printer", events(stop(5, "")), api.ErrNone},
		{"a printer before all", events(stop(5, "a")), api.ErrNone},
		{"a printer between", events(good, stop(5, "c")), api.ErrNone},
		{"a printer after all", events(stop(5, "e")), api.ErrNone},
		{"a printer that is no key", events(stop(5, "B")), api.ErrNone},
		{"a longer printer", events(stop(5, "bb")), api.ErrNone},
		{"no printer, too much", events(api.Event{At: 5, Kind: api.EventStop, Printer: "x", Job: "j"}), api.ErrNone},
		{"no printer, no job", events(start(5, "x", "")), api.ErrNone},
		{"a start with a material", events(api.Event{At: 5, Kind: api.EventStart, Printer: "b", Job: "j", Material: "m"}), api.ErrForm},
		{"a start with a material alone", events(api.Event{At: 5, Kind: api.EventStart, Printer: "b", Material: "m"}), api.ErrForm},
		{"a change with a job", events(api.Event{At: 5, Kind: api.EventChange, Printer: "b", Job: "j", Material: "m"}), api.ErrForm},
		{"a change with a job alone", events(api.Event{At: 5, Kind: api.EventChange, Printer: "b", Job: "j"}), api.ErrForm},
		{"a change with what is no key", events(api.Event{At: 5, Kind: api.EventChange, Printer: "b", Job: " ", Material: "m"}), api.ErrForm},
		{"too much, and too early", events(good, api.Event{At: 4, Kind: api.EventDone, Printer: "b", Job: "j"}), api.ErrForm},
		{"no job", events(start(5, "b", "")), api.ErrName},
		{"no material", events(good, change(5, "b", "")), api.ErrName},
		{"no job, and too early", events(good, start(4, "b", "")), api.ErrName},
		{"too early", events(good, stop(4, "b")), api.ErrOrder},
		{"too early with another printer", events(good, stop(4, "d")), api.ErrOrder},
		{"too early, before a wrong one", events(good, stop(4, "b"), stop(-1, "b")), api.ErrOrder},
		{"no job, before one too early", events(good, start(5, "b", ""), stop(4, "b")), api.ErrName},
		{"earlier than the one before", events(stop(3, "b"), stop(5, "b"), stop(4, "b")), api.ErrOrder},
	}
}

// P9.4: what is valid, at its bounds, and what is not.
func TestCheckEvents(t *testing.T) {
	p := []api.Printer{printer("b", "m"), printer("d", "m")}
	long := strings.Repeat("z", api.MaxName)
	for _, l := range [][]api.Event{
		nil,
		events(start(0, "b", "b"), start(0, "d", long), done(0, "b"), fail(5, "d"), change(5, "b", long), stop(5, "b"), serve(api.End-1, "b")),
		events(serve(5, "b"), serve(5, "b"), done(5, "d"), fail(7, "d")),
		slices.Repeat(events(start(7, "d", "j")), api.MaxEvents),
	} {
		if e := farm.CheckEvents(p, l); e != api.OK {
			t.Errorf("%.200v %v", l, e)
		}
	}
	for _, c := range wrongEvents() {
		fails(t, c.name, c.e, withEvents(p, c.l, "b", 0, api.Window{})...)
		fails(t, c.name, c.e, withEvents(p, c.l, "x", -1, api.Window{From: -1})...)
	}
	for _, s := range notKeys() {
		fails(t, s, api.ErrName, withEvents(p, events(start(5, "b", s)), "b", 0, api.Window{})...)
		fails(t, s, api.ErrName, withEvents(p, events(stop(5, "d"), change(5, "b", s)), "b", 0, api.Window{})...)
		fails(t, s, api.ErrNone, withEvents(p, events(stop(5, s)), "b", 0, api.Window{})...)
	}
}

// P9.4: kinds of events use the job, the material, or none of both.
func TestUnusedFields(t *testing.T) {
	for kind := api.EventStart; kind <= api.EventServe; kind++ {
		for _, fields := range [][2]string{{"", ""}, {"j", ""}, {"", "m"}, {"j", "m"}} {
			l := events(api.Event{At: 5, Kind: kind, Printer: "a", Job: fields[0], Material: fields[1]})
			e := api.OK
			switch {
			case kind != api.EventStart && fields[0] != "" || kind != api.EventChange && fields[1] != "":
				e = api.ErrForm
			case kind == api.EventStart && fields[0] == "" || kind == api.EventChange && fields[1] == "":
				e = api.ErrName
			}
			if got := farm.CheckEvents(samplePrinters(), l); got != e {
				t.Error(l, got, e)
			}
			if _, got := farm.Text(l); got != e {
				t.Error(l, got, e)
			}
		}
	}
}

// P9.4: all functions with events return CheckPrinters' error first.
func TestEventsOfWrongPrinters(t *testing.T) {
	for _, c := range wrongPrinters() {
		fails(t, c.name, c.e, withEvents(c.p, nil, "a", 0, api.Window{})...)
		fails(t, c.name, c.e, withEvents(c.p, make([]api.Event, api.MaxEvents+1), "", -1, api.Window{From: 1})...)
	}
}

// P9.4: the errors of At, Busy and Done alone.
func TestWrongMoments(t *testing.T) {
	p, l := samplePrinters(), events(start(5, "a", "j"))
	for _, at := range []int{least, -1, api.End, greatest} {
		calls := withEvents(p, l, "a", at, api.Window{})
		fails(t, at, api.ErrArg, calls[2], calls[4])
		fails(t, at, api.ErrNone, standing(p, l, "c", at))
	}
	for _, key := range []string{"", "A", "aa", "c", "j", "p", "a ", "\xff"} {
		fails(t, key, api.ErrNone, standing(p, l, key, 0), standing(p, nil, key, api.End-1))
	}
	for _, w := range [][2]int{{-1, 5}, {least, 5}, {-1, -1}, {least, greatest}, {6, 5}, {1, 0}, {0, -1}, {greatest, 5}, {0, api.End + 1}, {api.End + 1, api.End + 1}, {0, greatest}, {greatest, greatest}, {greatest, least}} {
		fails(t, w, api.ErrArg, busy(p, l, api.Window{From: w[0], To: w[1]}))
	}
	for _, w := range [][2]int{{0, 0}, {5, 5}, {0, api.End}, {api.End, api.End}} {
		if _, e := farm.Busy(p, l, api.Window{From: w[0], To: w[1]}); e != api.OK {
			t.Error(w, e)
		}
	}
	for _, at := range []int{0, api.End - 1} {
		for _, f := range withEvents(p, l, "b", at, api.Window{}) {
			if _, e := f.run(); e != api.OK {
				t.Error(f.name, at, e)
			}
		}
	}
}
