package record_test

import (
	"math/rand"
	"slices"
	"strconv"
	"strings"
	"testing"

	"beadlayer/api"
	"beadlayer/record"
)

// P10.4: each command, in the order of its lines.
func TestConsole(t *testing.T) {
	for _, c := range []struct{ text, want string }{
		{"", ""},
		{"jobs\nrunning\nfilament\n", ""},
		{"job j\npace j\nused s\n", "error 8\nerror 8\n0\n"},
		{"at 10\njobs\nrunning\nfilament\n", "ok\nj runs\np j\np s 100\n"},
		{"at 45\njobs\nrunning\nfilament\nat 80\njobs\nrunning\nat 4\njobs\nfilament\n", "ok\nj done\nk runs\nq k\np s 70\nok\nj done\nk failed\nl runs\nq l\nok\n"},
		{"at 20\njob j\npace j\nat 25\njob j\npace j\nused s\nat 40\njob j\npace j\nat 90\njob l\npace l\n", "ok\n1/2\n10/1\nok\n1/2\n10/1\n30\nok\n2/2\n15/1\nok\n1/4\n20/1\n"},
		{"at 60\njob k\npace k\njob l\npace l\n", "ok\n0/3\nnone\nerror 8\nerror 8\n"},
		{"at 60\njob z\njob J\npace z\npace J\nused z\nused S\n", "ok\nerror 8\nerror 5\nerror 8\nerror 5\n0\nerror 5\n"},
		{"at 0\nat 345686399999\nat 345686400000\nat -1\nat 999999999999999\nat -999999999999999\n", "ok\nok\nerror 1\nerror 1\nerror 1\nerror 1\n"},
		{"at 45\nat 345686400000\njobs\nat x\njobs\nat -1\njobs\n", "ok\nerror 1\nj done\nk runs\nerror 9\nj done\nk runs\nerror 1\nj done\nk runs\n"},
		{"\njobs\n\n", "error 9\nerror 9\n"},
		{"at 10\nhey\njobs\n", "ok\nerror 9\nj runs\n"},
	} {
		if got, e := record.Console(sample(), c.text); e != api.OK || got != c.want {
			t.Errorf("%q %q %v", c.text, got, e)
		}
	}
	if got, e := record.Console(nil, "at 7\njobs\nrunning\nfilament\nused s\njob j\n"); e != api.OK || got != "ok\n0\nerror 8\n" {
		t.Errorf("%q %v", got, e)
	}
	first := notes(by("a", 1, 0, begin("p", "j", 3)), by("a", 2, 0, layer("p", 1)), by("a", 3, 1, layer("p", 2)))
	if got, e := record.Console(first, "jobs\njob j\npace j\nat 1\njob j\npace j\n"); e != api.OK || got != "j runs\n1/3\n0/1\nok\n2/3\n1/2\n" {
		t.Errorf("%q %v", got, e)
	}
}

// P10.4: lines that are none of these.
func TestConsoleSyntax(t *testing.T) {
	for _, line := range []string{
		"", " ", "at", "at ", "at  5", "at 5 ", " at 5", "at 5 6", "at five", "at 05", "at -0", "at +5", "at 5.0", "at 5\r", "at\t5", "At 5", "at5", "at 1000000000000000", "at -1000000000000000", "at 000000000000005", "at ٣",
		"jobs ", " jobs", "jobs j", "Jobs", "jobs\r", "job", "job ", "job  j", "job j ", "job j k", " job j", "running ", "running p", "run", "filament p", "filament ", "filaments",
		"pace", "pace ", "pace  j", "pace j ", "pace j k", "used", "used ", "used  s", "used s ", "used s t", "done", "failed", "refused", "hey", "hey you", "5", "j", "text", "\x00", "\xff", "jobs\x00",
	} {
		if got, e := record.Console(sample(), "at 90\n"+line+"\njob j\n"); e != api.OK || got != "ok\nerror 9\n2/2\n" {
			t.Errorf("%q %q %v", line, got, e)
		}
	}
	for _, s := range notKeys() {
		if s == "" || strings.ContainsAny(s, " \n") {
			continue
		}
		if got, e := record.Console(sample(), "job "+s+"\npace "+s+"\nused "+s+"\n"); e != api.OK || got != "error 5\nerror 5\nerror 5\n" {
			t.Errorf("%q %q %v", s, got, e)
		}
	}
}

// P10.4: the errors of Console itself, in order.
func TestWrongConsole(t *testing.T) {
	n := sample()
	fails(t, "a line without an end", api.ErrSyntax, console(n, "jobs"), console(n, "at 5\njobs"), console(n, " "), console(n, "jobs\n\nx"), console(n, "at 10\njobs\n "), console(nil, "jobs"))
	most := strings.Repeat("jobs\n", api.MaxScript/5)
	if got, e := record.Console(n, "at 12\n"+strings.Repeat("jobs\n", 398)+"job\n"); e != api.OK || got != "ok\n"+strings.Repeat("j runs\n", 398)+"error 9\n" {
		t.Error(shown(got), e)
	}
	fails(t, "too long", api.ErrLarge, console(n, most+"\n"), console(n, most+"x"), console(n, strings.Repeat("x", api.MaxScript+1)), console(nil, strings.Repeat("x", 200_000)))
	fails(t, "as long as it can be, without an end", api.ErrSyntax, console(n, strings.Repeat("x", api.MaxScript)))
	fails(t, "wrong notes, and too long", api.ErrArg, console(notes(by("a", 0, 1, end("p"))), most+"x"), console(notes(by("a", 0, 1, end("p"))), "x"))
}

// P10.4: as many jobs as there can be, asked for as often as possible.
func TestLongConsole(t *testing.T) {
	var n []api.Note
	for i := range api.MaxNotes {
		key := "k" + strconv.Itoa(10_000+i)
		n = append(n, begin(key, "j"+key, 1))
	}
	var want strings.Builder
	for _, x := range series(n...) {
		want.WriteString(x.Job + " runs\n")
	}
	got, e := record.Console(n, "at 900000\n"+strings.Repeat("jobs\n", 398))
	if e != api.OK || got != "ok\n"+strings.Repeat(want.String(), 398) {
		t.Error(len(got), e)
	}
	got, e = record.Console(n, strings.Repeat("at 90000\n", 222))
	if e != api.OK || got != strings.Repeat("ok\n", 222) {
		t.Error(len(got), e)
	}
}

// answer is what a line is answered with at a moment, told by the other functions.
func answer(n []api.Note, command, name string, at int) string {
	var list []api.Pair
	var value string
	var e api.Errno
	switch command {
	case "running":
		list, e = record.Running(n, at)
	case "jobs":
		list, e = record.Jobs(n, at)
	case "filament":
		list, e = record.Filament(n, at)
	case "job":
		var a, b int
		a, b, e = record.Progress(n, name, at)
		list = pairs(strconv.Itoa(a)+"/"+strconv.Itoa(b), "")
	case "pace":
		var f api.Fraction
		var ok bool
		f, ok, e = record.Pace(n, name, at)
		value = strconv.Itoa(f.Num) + "/" + strconv.Itoa(f.Den)
		if !ok {
			value = "none"
		}
		list = pairs(value, "")
	case "used":
		var used int
		used, e = record.Used(n, name, at)
		list = pairs(strconv.Itoa(used), "")
	}
	if e != api.OK {
		return "error " + strconv.Itoa(int(e)) + "\n"
	}
	var lines strings.Builder
	for _, p := range list {
		lines.WriteString(strings.TrimSuffix(p.Name+" "+p.Value, " ") + "\n")
	}
	return lines.String()
}

// P10.4: random lines are answered as the other functions tell it.
func TestRandomConsole(t *testing.T) {
	r := rand.New(rand.NewSource(5))
	for range 1000 {
		n := randomNotes(r)
		at := 0
		var lines, want strings.Builder
		for range r.Intn(20) {
			command := []string{"running", "jobs", "filament", "job", "pace", "used"}[r.Intn(6)]
			name := randomKey(r, "jklmnstuzA")
			switch {
			case r.Intn(4) == 0:
				at = r.Intn(60)
				lines.WriteString("at " + strconv.Itoa(at) + "\n")
				want.WriteString("ok\n")
				continue
			case slices.Contains([]string{"job", "pace", "used"}, command):
				lines.WriteString(command + " " + name + "\n")
			default:
				lines.WriteString(command + "\n")
			}
			want.WriteString(answer(n, command, name, at))
		}
		if got, e := record.Console(n, lines.String()); e != api.OK || got != want.String() {
			t.Fatalf("%v %q %q %q %v", n, lines.String(), got, want.String(), e)
		}
	}
}
