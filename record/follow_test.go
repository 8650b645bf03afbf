package record_test

import (
	"math/rand"
	"slices"
	"strconv"
	"testing"

	"beadlayer/api"
	"beadlayer/record"
)

// accepted are notes that were not refused. What they say is found by looking back at them, as P10.2 says it.
type accepted []api.Note

// runs is the index of the NoteBegin of the job that runs at a printer; below 0 if there is none.
func (l accepted) runs(printer string) int {
	for i, x := range slices.Backward(l) {
		switch {
		case x.Printer != printer:
		case x.Kind == api.NoteBegin:
			return i
		case x.Kind == api.NoteEnd || x.Kind == api.NoteFail:
			return -1
		}
	}
	return -1
}

// began is the index of the NoteBegin of a job; below 0 if there is none.
func (l accepted) began(job string) int {
	return slices.IndexFunc(l, func(x api.Note) bool { return x.Kind == api.NoteBegin && x.Job == job })
}

// course are the notes of layers and of the end of the job that began with a note.
func (l accepted) course(begin int) []api.Note {
	var notes []api.Note
	for _, x := range l[begin+1:] {
		if x.Printer != l[begin].Printer {
			continue
		}
		switch x.Kind {
		case api.NoteBegin:
			return notes
		case api.NoteLayer, api.NoteEnd, api.NoteFail:
			notes = append(notes, x)
		}
	}
	return notes
}

// layers are the notes of the layers of the job that began with a note.
func (l accepted) layers(begin int) []api.Note {
	return slices.DeleteFunc(l.course(begin), func(x api.Note) bool { return x.Kind != api.NoteLayer })
}

// over is the note with which the job that began with a note ended; with the kind 0 if it runs.
func (l accepted) over(begin int) api.Note {
	for _, x := range l.course(begin) {
		if x.Kind != api.NoteLayer {
			return x
		}
	}
	return api.Note{}
}

// spool is the index of the NoteLoad of the spool that is in a printer; below 0 if there is none.
func (l accepted) spool(printer string) int {
	for i, x := range slices.Backward(l) {
		if x.Kind == api.NoteLoad && x.Printer == printer {
			return i
		}
	}
	return -1
}

func (l accepted) left(load int) int {
	left := l[load].N
	for _, x := range l[load:] {
		if x.Kind == api.NoteUse && x.Printer == l[load].Printer {
			left -= x.N
		}
	}
	return left
}

func (l accepted) used(spool string) int {
	used := 0
	for i, x := range l {
		if x.Kind == api.NoteUse && l[l[:i].spool(x.Printer)].Spool == spool {
			used += x.N
		}
	}
	return used
}

func (l accepted) isLoaded(spool string) bool {
	return slices.ContainsFunc(l, func(x api.Note) bool {
		load := l.spool(x.Printer)
		return load >= 0 && l[load].Spool == spool
	})
}

// reason is why a note is refused after those that were accepted.
func (l accepted) reason(x api.Note) api.Errno {
	job, spool := l.runs(x.Printer), l.spool(x.Printer)
	switch x.Kind {
	case api.NoteUndo:
		return api.OK
	case api.NoteBegin:
		if l.began(x.Job) >= 0 {
			return api.ErrTwice
		}
		if job >= 0 {
			return api.ErrFull
		}
		return api.OK
	case api.NoteLoad:
		if l.isLoaded(x.Spool) {
			return api.ErrTwice
		}
		return api.OK
	case api.NoteUse:
		if spool < 0 {
			return api.ErrNone
		}
		if l.left(spool) < x.N {
			return api.ErrFull
		}
		return api.OK
	}
	if job < 0 {
		return api.ErrNone
	}
	printed, all := len(l.layers(job)), l[job].N
	switch {
	case x.Kind == api.NoteLayer && x.N != printed+1:
		return api.ErrOrder
	case x.Kind == api.NoteLayer && x.N > all:
		return api.ErrLarge
	case x.Kind == api.NoteEnd && printed < all:
		return api.ErrState
	}
	return api.OK
}

// follow are the notes that count at a moment and are not refused, and those that are refused, and why.
func follow(n []api.Note, at int) (accepted, []int, []api.Errno) {
	var l accepted
	var refused []int
	var reasons []api.Errno
	for _, i := range counted(n, at) {
		if why := l.reason(n[i]); why != api.OK {
			refused, reasons = append(refused, i), append(reasons, why)
		} else {
			l = append(l, n[i])
		}
	}
	return l, refused, reasons
}

func (l accepted) running() []api.Pair {
	var list []api.Pair
	for _, printer := range []string{"p", "q"} {
		if i := l.runs(printer); i >= 0 {
			list = append(list, api.Pair{Name: printer, Value: l[i].Job})
		}
	}
	return list
}

func (l accepted) jobs() []api.Pair {
	var list []api.Pair
	for _, job := range []string{"j", "k", "l", "m", "n"} {
		if i := l.began(job); i >= 0 {
			state := map[int]string{0: "runs", api.NoteEnd: "done", api.NoteFail: "failed"}[l.over(i).Kind]
			list = append(list, api.Pair{Name: job, Value: state})
		}
	}
	return list
}

func (l accepted) filament() []api.Pair {
	var list []api.Pair
	for _, printer := range []string{"p", "q"} {
		if i := l.spool(printer); i >= 0 {
			list = append(list, api.Pair{Name: printer, Value: l[i].Spool + " " + strconv.Itoa(l.left(i))})
		}
	}
	return list
}

// P10.2: random notes, looked back at.
func TestRandomNotes(t *testing.T) {
	r := rand.New(rand.NewSource(3))
	met := make(map[[2]int]int)
	for range 3000 {
		n := randomNotes(r)
		at := r.Intn(60)
		l, refused, reasons := follow(n, at)
		i, why, e := record.Refused(n, at)
		if e != api.OK || !slices.Equal(i, refused) || !slices.Equal(why, reasons) {
			t.Fatal(n, at, i, why, e)
		}
		for k, i := range refused {
			met[[2]int{n[i].Kind, int(reasons[k])}]++
		}
		if got, e := record.Running(n, at); e != api.OK || !slices.Equal(got, l.running()) {
			t.Fatal(n, at, got, e)
		}
		if got, e := record.Jobs(n, at); e != api.OK || !slices.Equal(got, l.jobs()) {
			t.Fatal(n, at, got, e)
		}
		if got, e := record.Filament(n, at); e != api.OK || !slices.Equal(got, l.filament()) {
			t.Fatal(n, at, got, e)
		}
		for _, spool := range []string{"s", "t", "u", "z"} {
			if got, e := record.Used(n, spool, at); e != api.OK || got != l.used(spool) {
				t.Fatal(n, at, spool, got, e)
			}
		}
		checkJobs(t, n, at, l)
	}
	if len(met) != 11 {
		t.Error(met)
	}
	for reason, times := range met {
		if times < 20 {
			t.Error(reason, times)
		}
	}
}

// checkJobs checks the progress and the pace of all jobs.
func checkJobs(t *testing.T, n []api.Note, at int, l accepted) {
	for _, job := range []string{"j", "k", "l", "m", "n", "z"} {
		begin := l.began(job)
		if begin < 0 {
			fails(t, job, api.ErrNone, progress(n, job, at), pace(n, job, at))
			continue
		}
		layers := l.layers(begin)
		if a, b, e := record.Progress(n, job, at); e != api.OK || a != len(layers) || b != l[begin].N {
			t.Fatal(n, at, job, a, b, e)
		}
		f, ok, e := record.Pace(n, job, at)
		if e != api.OK || ok != (len(layers) > 0) || !ok && f != (api.Fraction{}) {
			t.Fatal(n, at, job, f, ok, e)
		}
		if ok && (f.Num*len(layers) != f.Den*(layers[len(layers)-1].At-l[begin].At) || !isLowest(f)) {
			t.Fatal(n, at, job, f)
		}
	}
}

// isLowest reports whether a fraction is one in lowest terms.
func isLowest(f api.Fraction) bool {
	for n := 2; n <= f.Den; n++ {
		if f.Num%n == 0 && f.Den%n == 0 {
			return false
		}
	}
	return f.Den > 0
}

// P10.2: the sample, from moment to moment.
func TestSample(t *testing.T) {
	n := sample()
	for _, c := range []struct {
		at                      int
		running, jobs, filament []api.Pair
		refused                 []int
	}{
		{0, nil, nil, nil, nil},
		{4, nil, nil, nil, nil},
		{5, nil, nil, pairs("p", "s 100"), nil},
		{10, pairs("p", "j"), pairs("j", "runs"), pairs("p", "s 100"), nil},
		{25, pairs("p", "j"), pairs("j", "runs"), pairs("p", "s 70"), nil},
		{40, pairs("p", "j"), pairs("j", "runs"), pairs("p", "s 70"), nil},
		{41, pairs("q", "k"), pairs("j", "done", "k", "runs"), pairs("p", "s 70"), nil},
		{50, pairs("q", "k"), pairs("j", "done", "k", "runs"), pairs("p", "s 70"), list(7)},
		{60, nil, pairs("j", "done", "k", "failed"), pairs("p", "s 70"), list(7)},
		{70, pairs("q", "l"), pairs("j", "done", "k", "failed", "l", "runs"), pairs("p", "s 70"), list(7)},
		{79, nil, pairs("j", "done", "k", "failed", "l", "failed"), pairs("p", "s 70"), list(7)},
		{80, pairs("q", "l"), pairs("j", "done", "k", "failed", "l", "runs"), pairs("p", "s 70"), list(7)},
		{last, pairs("q", "l"), pairs("j", "done", "k", "failed", "l", "runs"), pairs("p", "s 70"), list(7)},
	} {
		if got, e := record.Running(n, c.at); e != api.OK || !slices.Equal(got, c.running) {
			t.Error(c.at, got, e)
		}
		if got, e := record.Jobs(n, c.at); e != api.OK || !slices.Equal(got, c.jobs) {
			t.Error(c.at, got, e)
		}
		if got, e := record.Filament(n, c.at); e != api.OK || !slices.Equal(got, c.filament) {
			t.Error(c.at, got, e)
		}
		i, why, e := record.Refused(n, c.at)
		if e != api.OK || !slices.Equal(i, c.refused) || !slices.Equal(why, slices.Repeat(whys(api.ErrOrder), len(i))) {
			t.Error(c.at, i, why, e)
		}
	}
}

// P10.2: each reason for which a note is refused, and the first one if there are several.
func TestRefused(t *testing.T) {
	for _, c := range []struct {
		name    string
		n       []api.Note
		refused []int
		why     []api.Errno
	}{
		{"nothing", nil, nil, nil},
		{"a job that runs there", series(begin("p", "j", 1), begin("p", "j", 1)), list(1), whys(api.ErrTwice)},
		{"a job that runs elsewhere", series(begin("p", "j", 1), begin("q", "j", 1)), list(1), whys(api.ErrTwice)},
		{"a job that is done", series(begin("p", "j", 1), layer("p", 1), end("p"), begin("p", "j", 1)), list(3), whys(api.ErrTwice)},
		{"a job that has failed", series(begin("p", "j", 1), fail("p"), begin("q", "j", 1)), list(2), whys(api.ErrTwice)},
		{"a job that has begun, at a printer with another one", series(begin("p", "j", 1), begin("q", "k", 1), begin("q", "j", 1)), list(2), whys(api.ErrTwice)},
		{"a printer with a job", series(begin("p", "j", 1), begin("p", "k", 1)), list(1), whys(api.ErrFull)},
		{"a job that was refused before", series(begin("p", "j", 1), begin("p", "k", 1), begin("q", "k", 1)), list(1), whys(api.ErrFull)},
		{"a printer after a job that is done", series(begin("p", "j", 1), layer("p", 1), end("p"), begin("p", "k", 1)), nil, nil},
		{"a printer after a job that has failed", series(begin("p", "j", 1), fail("p"), begin("p", "k", 1)), nil, nil},
		{"a layer of no job", series(layer("p", 1)), list(0), whys(api.ErrNone)},
		{"a layer of a job elsewhere", series(begin("p", "j", 1), layer("q", 1)), list(1), whys(api.ErrNone)},
		{"a layer after the end", series(begin("p", "j", 2), layer("p", 1), fail("p"), layer("p", 2)), list(3), whys(api.ErrNone)},
		{"a layer that is printed already", series(begin("p", "j", 3), layer("p", 1), layer("p", 1)), list(2), whys(api.ErrOrder)},
		{"a layer too far", series(begin("p", "j", 3), layer("p", 1), layer("p", 3), layer("p", 2)), list(2), whys(api.ErrOrder)},
		{"a layer too far of all", series(begin("p", "j", 3), layer("p", 1), layer("p", 4)), list(2), whys(api.ErrOrder)},
		{"a layer of the job before", series(begin("p", "j", 3), layer("p", 1), fail("p"), begin("p", "k", 3), layer("p", 2), layer("p", 1)), list(4), whys(api.ErrOrder)},
		{"a layer too many", series(begin("p", "j", 1), layer("p", 1), layer("p", 2), end("p")), list(2), whys(api.ErrLarge)},
		{"an end of no job", series(end("p"), fail("p")), list(0, 1), whys(api.ErrNone, api.ErrNone)},
		{"an end of a job elsewhere", series(begin("p", "j", 1), end("q"), fail("q")), list(1, 2), whys(api.ErrNone, api.ErrNone)},
		{"an end twice", series(begin("p", "j", 1), layer("p", 1), end("p"), end("p"), fail("p")), list(3, 4), whys(api.ErrNone, api.ErrNone)},
		{"a failure twice", series(begin("p", "j", 1), fail("p"), fail("p"), end("p")), list(2, 3), whys(api.ErrNone, api.ErrNone)},
		{"an end without layers", series(begin("p", "j", 2), end("p"), layer("p", 1), end("p"), layer("p", 2), end("p")), list(1, 3), whys(api.ErrState, api.ErrState)},
		{"a spool that is there", series(load("p", "s", 5), load("p", "s", 5)), list(1), whys(api.ErrTwice)},
		{"a spool that is elsewhere", series(load("p", "s", 5), load("q", "s", 5)), list(1), whys(api.ErrTwice)},
		{"a spool that is empty, and there", series(load("p", "s", 5), use("p", 5), load("p", "s", 5)), list(2), whys(api.ErrTwice)},
		{"a spool that was taken out", series(load("p", "s", 5), load("p", "t", 5), load("q", "s", 5), load("p", "s", 5)), list(3), whys(api.ErrTwice)},
		{"a use of no spool", series(use("p", 1)), list(0), whys(api.ErrNone)},
		{"a use of a spool elsewhere", series(load("p", "s", 5), use("q", 1)), list(1), whys(api.ErrNone)},
		{"a use of too much", series(load("p", "s", 5), use("p", 6), use("p", 5)), list(1), whys(api.ErrFull)},
		{"a use of too much, bit by bit", series(load("p", "s", 5), use("p", 3), use("p", 3), use("p", 2), use("p", 1)), list(2, 4), whys(api.ErrFull, api.ErrFull)},
		{"a use of a spool that was taken out", series(load("p", "s", 5), load("p", "t", 1), use("p", 2)), list(2), whys(api.ErrFull)},
		{"undos", series(undo("a", 1), undo("b", 1), undo("a", 9)), nil, nil},
		{"what does not count", series(end("p"), undo("a", 1)), nil, nil},
		{"what counts again", series(end("p"), undo("a", 1), undo("a", 2)), list(0), whys(api.ErrNone)},
		{"after what does not count", series(begin("p", "j", 1), begin("p", "k", 1), layer("p", 1), undo("a", 1)), nil, nil},
		{"before what does not count", series(begin("p", "j", 1), begin("p", "k", 1), undo("a", 3)), list(1), whys(api.ErrFull)},
		{"without what does not count", series(begin("p", "j", 1), layer("p", 1), end("p"), undo("a", 2)), list(2), whys(api.ErrState)},
	} {
		i, why, e := record.Refused(c.n, last)
		if e != api.OK || !slices.Equal(i, c.refused) || !slices.Equal(why, c.why) {
			t.Error(c.name, i, why, e)
		}
	}
}

// P10.2: a note is refused at the moments at which it counts.
func TestRefusedAt(t *testing.T) {
	n := series(begin("p", "j", 1), end("p"), layer("p", 1), undo("a", 2), undo("a", 4))
	for at, want := range map[int][]int{0: nil, 10: nil, 19: nil, 20: list(1), 30: list(1), 39: list(1), 40: nil, 49: nil, 50: list(1), last: list(1)} {
		if i, why, e := record.Refused(n, at); e != api.OK || !slices.Equal(i, want) || !slices.Equal(why, slices.Repeat(whys(api.ErrState), len(want))) {
			t.Error(at, i, why, e)
		}
	}
}

// P10.2: pairs are in the order of their names, whatever was first.
func TestPairs(t *testing.T) {
	n := series(
		begin("q", "k", 1), begin("p", "l", 1), begin("r", "j", 1), begin("p0", "a", 1), load("q", "t", 5), load("r", "a", 7), load("p", "u", 9), load("p-", "s", 1), use("p-", 1), use("r", 2),
	)
	if got, e := record.Running(n, last); e != api.OK || !slices.Equal(got, pairs("p", "l", "p0", "a", "q", "k", "r", "j")) {
		t.Error(got, e)
	}
	if got, e := record.Jobs(n, last); e != api.OK || !slices.Equal(got, pairs("a", "runs", "j", "runs", "k", "runs", "l", "runs")) {
		t.Error(got, e)
	}
	if got, e := record.Filament(n, last); e != api.OK || !slices.Equal(got, pairs("p", "u 9", "p-", "s 0", "q", "t 5", "r", "a 5")) {
		t.Error(got, e)
	}
}

// P10.2: what is left on spools that are taken out and put in again, and what was used of them in all.
func TestSpools(t *testing.T) {
	n := series(load("p", "s", 9), use("p", 4), load("p", "t", 8), use("p", 8), load("q", "s", 20), use("q", 6), use("q", 15), load("p", "u", 3), load("p", "t", 7), use("p", 1))
	for _, c := range []struct {
		at      int
		want    []api.Pair
		s, t, u int
	}{
		{9, nil, 0, 0, 0},
		{10, pairs("p", "s 9"), 0, 0, 0},
		{20, pairs("p", "s 5"), 4, 0, 0},
		{30, pairs("p", "t 8"), 4, 0, 0},
		{40, pairs("p", "t 0"), 4, 8, 0},
		{50, pairs("p", "t 0", "q", "s 20"), 4, 8, 0},
		{60, pairs("p", "t 0", "q", "s 14"), 10, 8, 0},
		{70, pairs("p", "t 0", "q", "s 14"), 10, 8, 0},
		{80, pairs("p", "u 3", "q", "s 14"), 10, 8, 0},
		{90, pairs("p", "t 7", "q", "s 14"), 10, 8, 0},
		{100, pairs("p", "t 6", "q", "s 14"), 10, 9, 0},
	} {
		if got, e := record.Filament(n, c.at); e != api.OK || !slices.Equal(got, c.want) {
			t.Error(c.at, got, e)
		}
		for spool, want := range map[string]int{"s": c.s, "t": c.t, "u": c.u, "v": 0, "p": 0} {
			if got, e := record.Used(n, spool, c.at); e != api.OK || got != want {
				t.Error(c.at, spool, got, e)
			}
		}
	}
	var most []api.Note
	for i := range api.MaxNotes / 2 {
		most = append(most, load("p", []string{"s", "t"}[i%2], api.MaxFlow), use("p", api.MaxFlow))
	}
	if got, e := record.Used(series(most...), "t", last); e != api.OK || got != api.MaxNotes/4*api.MaxFlow {
		t.Error(got, e)
	}
}

// P10.2: how many layers of a job are printed, also after its end.
func TestProgress(t *testing.T) {
	n := series(begin("p", "j", 2), begin("q", "k", 1_000), layer("p", 1), layer("q", 1), layer("p", 2), end("p"), begin("p", "l", 7), layer("p", 1), fail("q"), undo("a", 8))
	for _, c := range []struct {
		at            int
		job           string
		printed, most int
	}{
		{10, "j", 0, 2}, {29, "j", 0, 2}, {30, "j", 1, 2}, {49, "j", 1, 2}, {50, "j", 2, 2}, {last, "j", 2, 2},
		{20, "k", 0, 1_000}, {39, "k", 0, 1_000}, {40, "k", 1, 1_000}, {90, "k", 1, 1_000}, {79, "l", 0, 7}, {80, "l", 1, 7}, {100, "l", 0, 7},
	} {
		if printed, most, e := record.Progress(n, c.job, c.at); e != api.OK || printed != c.printed || most != c.most {
			t.Error(c, printed, most, e)
		}
	}
	fails(t, "before it begins", api.ErrNone, progress(n, "j", 9), pace(n, "j", 9), progress(n, "k", 19), pace(n, "l", 69))
	fails(t, "not there", api.ErrNone, progress(n, "z", last), pace(n, "z", last), progress(nil, "j", 0), pace(nil, "j", 0), progress(n, "p", last))
	begun := series(begin("p", "j", 2), begin("p", "k", 1), undo("a", 1))
	fails(t, "refused", api.ErrNone, progress(begun, "k", 20), pace(begun, "k", 20))
	fails(t, "undone", api.ErrNone, progress(begun, "j", 30), pace(begun, "j", 30))
	for _, s := range notKeys() {
		fails(t, s, api.ErrName, progress(n, s, last), pace(n, s, last), used(n, s, last), progress(nil, s, 0), pace(nil, s, 0), used(nil, s, 0))
	}
}
