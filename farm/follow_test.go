package farm_test

import (
	"math/rand"
	"slices"
	"testing"

	"beadlayer/api"
	"beadlayer/farm"
)

// accepted are events that were not refused. What they say is found by looking back at them, as P9.4 says it.
type accepted []api.Event

// last is the event with which a printer came to its state; false if there was none.
func (l accepted) last(key string) (api.Event, bool) {
	for _, x := range slices.Backward(l) {
		if x.Printer == key && x.Kind != api.EventChange {
			return x, true
		}
	}
	return api.Event{}, false
}

func (l accepted) state(key string) int {
	x, is := l.last(key)
	switch {
	case is && x.Kind == api.EventStart:
		return api.PrinterBusy
	case is && x.Kind == api.EventStop:
		return api.PrinterStopped
	}
	return api.PrinterIdle
}

func (l accepted) standing(p api.Printer) api.Standing {
	material := p.Material
	for _, x := range l {
		if x.Printer == p.Key && x.Kind == api.EventChange {
			material = x.Material
		}
	}
	x, _ := l.last(p.Key)
	return api.Standing{State: l.state(p.Key), Since: x.At, Material: material, Job: x.Job}
}

// fates are the kinds of the events that ended a job each time that it was begun; 0 if none did.
func (l accepted) fates(job string) []int {
	var kinds []int
	for i, x := range l {
		if x.Kind != api.EventStart || x.Job != job {
			continue
		}
		end := slices.IndexFunc(l[i+1:], func(y api.Event) bool { return y.Printer == x.Printer })
		if end < 0 {
			kinds = append(kinds, 0)
		} else {
			kinds = append(kinds, l[i+1+end].Kind)
		}
	}
	return kinds
}

func (l accepted) reason(x api.Event) api.Errno {
	state := l.state(x.Printer)
	wanted := map[int]int{
		api.EventStart: api.PrinterIdle, api.EventChange: api.PrinterIdle, api.EventDone: api.PrinterBusy, api.EventFail: api.PrinterBusy, api.EventServe: api.PrinterStopped,
	}
	if x.Kind == api.EventStop && state == api.PrinterStopped || x.Kind != api.EventStop && state != wanted[x.Kind] {
		return api.ErrState
	}
	if fates := l.fates(x.Job); x.Kind == api.EventStart && (slices.Contains(fates, 0) || slices.Contains(fates, api.EventDone)) {
		return api.ErrTwice
	}
	return api.OK
}

// follow are the events that are not refused, up to a moment, and all that are refused, and why.
func follow(l []api.Event, at int) (accepted, []int, []api.Errno) {
	var all, until accepted
	var refused []int
	var why []api.Errno
	for i, x := range l {
		if e := all.reason(x); e != api.OK {
			refused, why = append(refused, i), append(why, e)
			continue
		}
		all = append(all, x)
		if x.At <= at {
			until = append(until, x)
		}
	}
	return until, refused, why
}

// sample are events with all kinds, of which some are refused.
func sample() []api.Event {
	return events(
		start(1, "a", "j0"), start(2, "b", "j0"), stop(5, "a"), change(6, "a", "q"), start(7, "b", "j0"),
		done(9, "b"), serve(9, "a"), change(12, "a", "r"), start(20, "a", "j0"), start(20, "a", "j1"), fail(25, "a"), start(30, "b", "j1"),
	)
}

// P9.4: what is refused, and why; what printers do, and how their jobs fare.
func TestEvents(t *testing.T) {
	p, l := samplePrinters(), sample()
	i, why, e := farm.Refused(p, l)
	if e != api.OK || !slices.Equal(i, list(1, 3, 8)) || !slices.Equal(why, []api.Errno{api.ErrTwice, api.ErrState, api.ErrTwice}) {
		t.Error(i, why, e)
	}
	for _, c := range []struct {
		at           int
		a, b         api.Standing
		done, failed []string
	}{
		{0, api.Standing{State: api.PrinterIdle, Material: "p"}, api.Standing{State: api.PrinterIdle, Material: "q"}, nil, nil},
		{1, api.Standing{State: api.PrinterBusy, Since: 1, Material: "p", Job: "j0"}, api.Standing{State: api.PrinterIdle, Material: "q"}, nil, nil},
		{4, api.Standing{State: api.PrinterBusy, Since: 1, Material: "p", Job: "j0"}, api.Standing{State: api.PrinterIdle, Material: "q"}, nil, nil},
		{6, api.Standing{State: api.PrinterStopped, Since: 5, Material: "p"}, api.Standing{State: api.PrinterIdle, Material: "q"}, nil, []string{"j0"}},
		{8, api.Standing{State: api.PrinterStopped, Since: 5, Material: "p"}, api.Standing{State: api.PrinterBusy, Since: 7, Material: "q", Job: "j0"}, nil, []string{"j0"}},
		{9, api.Standing{State: api.PrinterIdle, Since: 9, Material: "p"}, api.Standing{State: api.PrinterIdle, Since: 9, Material: "q"}, []string{"j0"}, nil},
		{19, api.Standing{State: api.PrinterIdle, Since: 9, Material: "r"}, api.Standing{State: api.PrinterIdle, Since: 9, Material: "q"}, []string{"j0"}, nil},
		{20, api.Standing{State: api.PrinterBusy, Since: 20, Material: "r", Job: "j1"}, api.Standing{State: api.PrinterIdle, Since: 9, Material: "q"}, []string{"j0"}, nil},
		{29, api.Standing{State: api.PrinterIdle, Since: 25, Material: "r"}, api.Standing{State: api.PrinterIdle, Since: 9, Material: "q"}, []string{"j0"}, []string{"j1"}},
		{api.End - 1, api.Standing{State: api.PrinterIdle, Since: 25, Material: "r"}, api.Standing{State: api.PrinterBusy, Since: 30, Material: "q", Job: "j1"}, []string{"j0"}, []string{"j1"}},
	} {
		for key, want := range map[string]api.Standing{"a": c.a, "b": c.b} {
			if s, e := farm.At(p, l, key, c.at); e != api.OK || s != want {
				t.Error(key, c.at, s, e)
			}
		}
		if d, f, e := farm.Done(p, l, c.at); e != api.OK || !slices.Equal(d, c.done) || !slices.Equal(f, c.failed) {
			t.Error(c.at, d, f, e)
		}
	}
}

// P9.4: how long printers are busy within a window, also with a job that does not end.
func TestBusy(t *testing.T) {
	for _, c := range []struct{ from, to, a, b int }{
		{3, 8, 2, 1}, {0, 0, 0, 0}, {0, 1, 0, 0}, {0, 2, 1, 0}, {1, 5, 4, 0}, {2, 3, 1, 0}, {5, 7, 0, 0}, {5, 20, 0, 2}, {7, 9, 0, 2}, {8, 9, 0, 1}, {9, 20, 0, 0}, {9, 30, 5, 0}, {24, 31, 1, 1},
		{0, 50, 9, 22}, {0, api.End, 9, api.End - 28}, {api.End - 1, api.End, 0, 1}, {api.End, api.End, 0, 0}, {40, 40, 0, 0},
	} {
		if n, e := farm.Busy(samplePrinters(), sample(), api.Window{From: c.from, To: c.to}); e != api.OK || !slices.Equal(n, list(c.a, c.b)) {
			t.Error(c, n, e)
		}
	}
	if n, e := farm.Busy(samplePrinters(), nil, api.Window{To: api.End}); e != api.OK || !slices.Equal(n, list(0, 0)) {
		t.Error(n, e)
	}
	longest := events(start(0, "a", "j"), start(0, "b", "k"), fail(0, "b"), start(0, "b", "k"), done(api.End-1, "b"))
	if n, e := farm.Busy(samplePrinters(), longest, api.Window{To: api.End}); e != api.OK || !slices.Equal(n, list(api.End, api.End-1)) {
		t.Error(n, e)
	}
}

// P9.4: each kind of event in each state of a printer.
func TestStates(t *testing.T) {
	ways := map[int][]api.Event{api.PrinterIdle: nil, api.PrinterBusy: events(start(1, "a", "j")), api.PrinterStopped: events(stop(1, "a"))}
	for _, c := range []struct {
		x     api.Event
		state int // before the event
		after api.Standing
		e     api.Errno
	}{
		{start(3, "a", "k"), api.PrinterIdle, api.Standing{State: api.PrinterBusy, Since: 3, Material: "p", Job: "k"}, api.OK},
		{done(3, "a"), api.PrinterIdle, api.Standing{State: api.PrinterIdle, Material: "p"}, api.ErrState},
		{fail(3, "a"), api.PrinterIdle, api.Standing{State: api.PrinterIdle, Material: "p"}, api.ErrState},
		{change(3, "a", "r"), api.PrinterIdle, api.Standing{State: api.PrinterIdle, Material: "r"}, api.OK},
		{change(3, "a", "p"), api.PrinterIdle, api.Standing{State: api.PrinterIdle, Material: "p"}, api.OK},
		{stop(3, "a"), api.PrinterIdle, api.Standing{State: api.PrinterStopped, Since: 3, Material: "p"}, api.OK},
		{serve(3, "a"), api.PrinterIdle, api.Standing{State: api.PrinterIdle, Material: "p"}, api.ErrState},
		{start(3, "a", "k"), api.PrinterBusy, api.Standing{State: api.PrinterBusy, Since: 1, Material: "p", Job: "j"}, api.ErrState},
		{start(3, "a", "j"), api.PrinterBusy, api.Standing{State: api.PrinterBusy, Since: 1, Material: "p", Job: "j"}, api.ErrState},
		{done(3, "a"), api.PrinterBusy, api.Standing{State: api.PrinterIdle, Since: 3, Material: "p"}, api.OK},
		{fail(3, "a"), api.PrinterBusy, api.Standing{State: api.PrinterIdle, Since: 3, Material: "p"}, api.OK},
		{change(3, "a", "r"), api.PrinterBusy, api.Standing{State: api.PrinterBusy, Since: 1, Material: "p", Job: "j"}, api.ErrState},
		{stop(3, "a"), api.PrinterBusy, api.Standing{State: api.PrinterStopped, Since: 3, Material: "p"}, api.OK},
		{serve(3, "a"), api.PrinterBusy, api.Standing{State: api.PrinterBusy, Since: 1, Material: "p", Job: "j"}, api.ErrState},
		{start(3, "a", "k"), api.PrinterStopped, api.Standing{State: api.PrinterStopped, Since: 1, Material: "p"}, api.ErrState},
		{done(3, "a"), api.PrinterStopped, api.Standing{State: api.PrinterStopped, Since: 1, Material: "p"}, api.ErrState},
		{fail(3, "a"), api.PrinterStopped, api.Standing{State: api.PrinterStopped, Since: 1, Material: "p"}, api.ErrState},
		{change(3, "a", "r"), api.PrinterStopped, api.Standing{State: api.PrinterStopped, Since: 1, Material: "p"}, api.ErrState},
		{stop(3, "a"), api.PrinterStopped, api.Standing{State: api.PrinterStopped, Since: 1, Material: "p"}, api.ErrState},
		{serve(3, "a"), api.PrinterStopped, api.Standing{State: api.PrinterIdle, Since: 3, Material: "p"}, api.OK},
	} {
		l := append(ways[c.state], c.x)
		if s, e := farm.At(samplePrinters(), l, "a", 3); e != api.OK || s != c.after {
			t.Error(l, s, e)
		}
		i, why, e := farm.Refused(samplePrinters(), l)
		if e != api.OK || c.e == api.OK && len(i) > 0 || c.e != api.OK && (!slices.Equal(i, list(len(l)-1)) || !slices.Equal(why, []api.Errno{c.e})) {
			t.Error(l, i, why, e)
		}
	}
}

// P9.4: a job is on one printer, is done once, and can be begun again only if it has failed.
func TestFates(t *testing.T) {
	p := samplePrinters()
	for _, c := range []struct {
		l            []api.Event
		refused      []int
		done, failed []string
	}{
		{events(start(1, "a", "j"), start(1, "b", "j")), list(1), nil, nil},
		{events(start(1, "a", "j"), done(2, "a"), start(3, "a", "j")), list(2), []string{"j"}, nil},
		{events(start(1, "a", "j"), done(2, "a"), start(3, "b", "j")), list(2), []string{"j"}, nil},
		{events(start(1, "a", "j"), fail(2, "a"), start(3, "a", "j")), nil, nil, []string{"j"}},
		{events(start(1, "a", "j"), fail(2, "a"), start(3, "b", "j"), start(3, "a", "j")), list(3), nil, []string{"j"}},
		{events(start(1, "a", "j"), stop(2, "a"), start(3, "b", "j"), done(4, "b"), serve(4, "a"), start(5, "a", "j")), list(5), []string{"j"}, nil},
		{events(start(1, "a", "j"), fail(2, "a"), start(3, "a", "j"), fail(3, "a"), start(3, "a", "j"), done(3, "a")), nil, []string{"j"}, nil},
		{events(start(1, "b", "k"), start(1, "a", "j"), done(2, "b"), done(2, "a"), start(3, "a", "z"), start(3, "b", "y"), stop(4, "a"), stop(4, "b"), serve(5, "a"), start(5, "a", "i")), nil, []string{"j", "k"}, []string{"y", "z"}},
		{events(start(1, "a", "a"), start(1, "b", "p"), done(2, "a"), fail(2, "b")), nil, []string{"a"}, []string{"p"}},
		{events(stop(1, "a"), fail(1, "b"), done(1, "b")), list(1, 2), nil, nil},
	} {
		if i, why, e := farm.Refused(p, c.l); e != api.OK || !slices.Equal(i, c.refused) || len(why) != len(i) {
			t.Error(c.l, i, why, e)
		}
		if d, f, e := farm.Done(p, c.l, api.End-1); e != api.OK || !slices.Equal(d, c.done) || !slices.Equal(f, c.failed) {
			t.Error(c.l, d, f, e)
		}
	}
}

// P9.4: random events, looked back at.
func TestRandomEvents(t *testing.T) {
	r := rand.New(rand.NewSource(5))
	for range 2000 {
		p := randomPrinters(r, 3)
		l := randomEvents(r, p)
		at := r.Intn(40)
		until, refused, reasons := follow(l, at)
		if i, why, e := farm.Refused(p, l); e != api.OK || !slices.Equal(i, refused) || !slices.Equal(why, reasons) {
			t.Fatal(p, l, i, why, e)
		}
		for _, x := range p {
			if s, e := farm.At(p, l, x.Key, at); e != api.OK || s != until.standing(x) {
				t.Fatal(p, l, x, at, s, e)
			}
		}
		var good, bad []string
		for i := range 4 {
			fates := until.fates(keyOf(i))
			isDone := slices.Contains(fates, api.EventDone)
			if isDone {
				good = append(good, keyOf(i))
			} else if slices.Contains(fates, api.EventFail) || slices.Contains(fates, api.EventStop) {
				bad = append(bad, keyOf(i))
			}
		}
		if d, f, e := farm.Done(p, l, at); e != api.OK || !slices.Equal(d, good) || !slices.Equal(f, bad) {
			t.Fatal(p, l, at, d, f, e)
		}
	}
}

// P9.4: a printer is busy for as many milliseconds of a window as At tells.
func TestRandomBusy(t *testing.T) {
	r := rand.New(rand.NewSource(6))
	for range 500 {
		p := randomPrinters(r, 3)
		l := randomEvents(r, p)
		from := r.Intn(40)
		w := api.Window{From: from, To: from + r.Intn(20)}
		n, e := farm.Busy(p, l, w)
		if e != api.OK || len(n) != len(p) {
			t.Fatal(p, l, w, n, e)
		}
		for i, x := range p {
			want := 0
			for at := w.From; at < w.To; at++ {
				if s, _ := farm.At(p, l, x.Key, at); s.State == api.PrinterBusy {
					want++
				}
			}
			if n[i] != want {
				t.Fatal(p, l, w, n, want)
			}
		}
	}
}

// P9.4: as many events as there can be, of as many printers.
func TestMostEvents(t *testing.T) {
	p := printers(slices.Repeat([]string{"m"}, api.MaxPrinters)...)
	var l []api.Event
	var jobs []string
	for i := range api.MaxEvents / 2 {
		name := "j" + keyOf(i/1000) + keyOf(i%1000)
		key := keyOf(i % api.MaxPrinters)
		l = append(l, start(i, key, name), done(i, key))
		jobs = append(jobs, name)
	}
	if i, why, e := farm.Refused(p, l); e != api.OK || len(i)+len(why) > 0 {
		t.Error(i, why, e)
	}
	if d, f, e := farm.Done(p, l, api.MaxEvents); e != api.OK || !slices.Equal(d, jobs) || len(f) > 0 {
		t.Error(len(d), f, e)
	}
	if d, f, e := farm.Done(p, l, 999); e != api.OK || !slices.Equal(d, jobs[:1000]) || len(f) > 0 {
		t.Error(len(d), f, e)
	}
	if n, e := farm.Busy(p, l, api.Window{To: api.End}); e != api.OK || !slices.Equal(n, make([]int, api.MaxPrinters)) {
		t.Error(n, e)
	}
	if s, e := farm.At(p, l, keyOf(49), 2499); e != api.OK || s != (api.Standing{State: api.PrinterIdle, Since: 2499, Material: "m"}) {
		t.Error(s, e)
	}
}
