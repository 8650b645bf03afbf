package farm_test

import (
	"math/rand"
	"reflect"
	"slices"
	"testing"

	"beadlayer/api"
	"beadlayer/farm"
)

const (
	least    = -1 << 63
	greatest = 1<<63 - 1
	maxDue   = 1_000_000_000
)

func list(n ...int) []int { return n }

func lists(l ...[]int) [][]int { return l }

func printer(key, material string) api.Printer { return api.Printer{Key: key, Material: material} }

func job(key, material string, minutes, due int) api.Job {
	return api.Job{Key: key, Material: material, Minutes: minutes, Due: due}
}

// keyOf is the key with a number from 0 to 999: greater numbers have greater keys.
func keyOf(i int) string {
	return "k" + string([]byte{'0' + byte(i/100), '0' + byte(i/10%10), '0' + byte(i%10)})
}

// printers have these materials, in order.
func printers(materials ...string) []api.Printer {
	var p []api.Printer
	for i, material := range materials {
		p = append(p, printer(keyOf(i), material))
	}
	return p
}

// alike are so many jobs of the material m that need a minute, and are due at the beginning.
func alike(count int) []api.Job {
	var j []api.Job
	for i := range count {
		j = append(j, job(keyOf(i), "m", 1, 0))
	}
	return j
}

// samplePrinters and sampleJobs are the example of the chapter.
func samplePrinters() []api.Printer { return []api.Printer{printer("a", "p"), printer("b", "q")} }

func sampleJobs() []api.Job {
	return []api.Job{job("j0", "p", 30, 40), job("j1", "q", 20, 10), job("j2", "p", 20, 30)}
}

func randomMaterial(r *rand.Rand) string { return []string{"m", "n", "o"}[r.Intn(3)] }

func randomPrinters(r *rand.Rand, most int) []api.Printer {
	p := printers(make([]string, 1+r.Intn(most))...)
	for i := range p {
		p[i].Material = randomMaterial(r)
	}
	return p
}

// randomJobs are so short that many plans are equally good.
func randomJobs(r *rand.Rand, most int) []api.Job {
	j := alike(r.Intn(most + 1))
	longest := []int{1, 3, 20}[r.Intn(3)]
	for i := range j {
		j[i].Material, j[i].Minutes, j[i].Due = randomMaterial(r), 1+r.Intn(longest), r.Intn(2*longest+1)
	}
	return j
}

// randomPlan is one of so many jobs on so many printers.
func randomPlan(r *rand.Rand, p, j int) [][]int {
	plan := make([][]int, p)
	for _, i := range r.Perm(j) {
		k := r.Intn(p)
		plan[k] = append(plan[k], i)
	}
	return plan
}

func start(at int, printer, job string) api.Event {
	return api.Event{At: at, Kind: api.EventStart, Printer: printer, Job: job}
}

func change(at int, printer, material string) api.Event {
	return api.Event{At: at, Kind: api.EventChange, Printer: printer, Material: material}
}

func done(at int, printer string) api.Event {
	return api.Event{At: at, Kind: api.EventDone, Printer: printer}
}

func fail(at int, printer string) api.Event {
	return api.Event{At: at, Kind: api.EventFail, Printer: printer}
}

func stop(at int, printer string) api.Event {
	return api.Event{At: at, Kind: api.EventStop, Printer: printer}
}

func serve(at int, printer string) api.Event {
	return api.Event{At: at, Kind: api.EventServe, Printer: printer}
}

func events(l ...api.Event) []api.Event { return l }

// randomEvent is one of a few jobs.
func randomEvent(r *rand.Rand, at int, printer string) api.Event {
	switch r.Intn(9) {
	case 0, 1, 2:
		return start(at, printer, keyOf(r.Intn(4)))
	case 3, 4:
		return fail(at, printer)
	case 5:
		return done(at, printer)
	case 6:
		return change(at, printer, randomMaterial(r))
	case 7:
		return stop(at, printer)
	}
	return serve(at, printer)
}

// randomEvents are valid for printers.
func randomEvents(r *rand.Rand, p []api.Printer) []api.Event {
	var l []api.Event
	for at := r.Intn(3); r.Intn(25) > 0; at += r.Intn(3) {
		l = append(l, randomEvent(r, at, p[r.Intn(len(p))].Key))
	}
	return l
}

func isZero(value any) bool {
	v := reflect.ValueOf(value)
	if v.Kind() == reflect.Slice {
		return v.Len() == 0
	}
	return v.IsZero()
}

// call is a function of the package, with all its arguments.
type call struct {
	name string
	run  func() ([]any, api.Errno)
}

// fails checks that calls return an error, and zero values with it.
func fails(t *testing.T, name any, e api.Errno, calls ...call) {
	t.Helper()
	for _, f := range calls {
		results, got := f.run()
		if got != e || slices.ContainsFunc(results, func(x any) bool { return !isZero(x) }) {
			t.Errorf("%.100v %s %.100v %v, not %v", name, f.name, results, got, e)
		}
	}
}

func checkPrinters(p []api.Printer) call {
	return call{"CheckPrinters", func() ([]any, api.Errno) { return nil, farm.CheckPrinters(p) }}
}

func checkJobs(j []api.Job) call {
	return call{"CheckJobs", func() ([]any, api.Errno) { return nil, farm.CheckJobs(j) }}
}

// withPlan are the functions with a plan.
func withPlan(p []api.Printer, j []api.Job, plan [][]int, minutes int) []call {
	return []call{{"CheckPlan", func() ([]any, api.Errno) { return nil, farm.CheckPlan(p, j, plan) }}, ends(p, j, plan, minutes), late(p, j, plan, minutes)}
}

func ends(p []api.Printer, j []api.Job, plan [][]int, minutes int) call {
	return call{"Ends", func() ([]any, api.Errno) { l, n, e := farm.Ends(p, j, plan, minutes); return []any{l, n}, e }}
}

func late(p []api.Printer, j []api.Job, plan [][]int, minutes int) call {
	return call{"Late", func() ([]any, api.Errno) { n, l, e := farm.Late(p, j, plan, minutes); return []any{n, l}, e }}
}

func bound(p []api.Printer, j []api.Job) call {
	return call{"Bound", func() ([]any, api.Errno) { n, e := farm.Bound(p, j); return []any{n}, e }}
}

func earliest(p []api.Printer, j []api.Job, minutes int) call {
	return call{"Earliest", func() ([]any, api.Errno) { l, n, e := farm.Earliest(p, j, minutes); return []any{l, n}, e }}
}

func greedy(p []api.Printer, j []api.Job, minutes int) call {
	return call{"Greedy", func() ([]any, api.Errno) { l, n, e := farm.Greedy(p, j, minutes); return []any{l, n}, e }}
}

func leastLate(p api.Printer, j []api.Job, minutes int) call {
	return call{"LeastLate", func() ([]any, api.Errno) { l, n, e := farm.LeastLate(p, j, minutes); return []any{l, n}, e }}
}

// withBoth are the functions with printers and jobs.
func withBoth(p []api.Printer, j []api.Job, plan [][]int, minutes int) []call {
	return append(withPlan(p, j, plan, minutes), bound(p, j), earliest(p, j, minutes), greedy(p, j, minutes))
}

// withEvents are the functions with printers and events.
func withEvents(p []api.Printer, l []api.Event, key string, at int, w api.Window) []call {
	return []call{
		{"CheckEvents", func() ([]any, api.Errno) { return nil, farm.CheckEvents(p, l) }},
		{"Refused", func() ([]any, api.Errno) { i, why, e := farm.Refused(p, l); return []any{i, why}, e }},
		standing(p, l, key, at),
		busy(p, l, w),
		{"Done", func() ([]any, api.Errno) { d, f, e := farm.Done(p, l, at); return []any{d, f}, e }},
	}
}

func standing(p []api.Printer, l []api.Event, key string, at int) call {
	return call{"At", func() ([]any, api.Errno) { s, e := farm.At(p, l, key, at); return []any{s}, e }}
}

func busy(p []api.Printer, l []api.Event, w api.Window) call {
	return call{"Busy", func() ([]any, api.Errno) { n, e := farm.Busy(p, l, w); return []any{n}, e }}
}

func text(l []api.Event) call {
	return call{"Text", func() ([]any, api.Errno) { s, e := farm.Text(l); return []any{s}, e }}
}

func read(s string) call {
	return call{"Read", func() ([]any, api.Errno) { l, n, e := farm.Read(s); return []any{l, n}, e }}
}
