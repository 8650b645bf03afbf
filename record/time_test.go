package record_test

import (
	"cmp"
	"math/rand"
	"slices"
	"strings"
	"testing"

	"beadlayer/api"
	"beadlayer/record"
)

// P10.3: the example of the chapter.
func TestExample(t *testing.T) {
	n := notes(by("a", 1, 10, begin("p", "j", 2)), by("a", 2, 20, layer("p", 1)), by("a", 3, 40, layer("p", 2)))
	for _, at := range []int{40, 41, last} {
		if f, ok, e := record.Pace(n, "j", at); e != api.OK || !ok || f != (api.Fraction{Num: 15, Den: 1}) {
			t.Error(at, f, ok, e)
		}
	}
}

// P10.3: how long a layer takes: from the begin to the last layer that is printed, whatever comes after it.
func TestPace(t *testing.T) {
	n := notes(
		by("a", 1, 3, begin("p", "j", 4)), by("b", 1, 3, begin("q", "k", 2)), by("b", 2, 3, layer("q", 1)), by("a", 2, 10, layer("p", 1)), by("a", 3, 14, layer("p", 3)),
		by("a", 4, 20, layer("p", 2)), by("a", 5, 30, layer("p", 3)), by("c", 1, 35, undo("a", 5)), by("a", 6, 43, layer("p", 3)), by("a", 7, 50, layer("p", 5)), by("a", 8, 60, fail("p")),
		by("a", 9, 70, begin("p", "l", 1)), by("a", 10, 80, end("p")), by("b", 3, last, layer("q", 2)),
	)
	for _, c := range []struct {
		at       int
		job      string
		num, den int // 0 and 0 if there is none
	}{
		{3, "j", 0, 0}, {9, "j", 0, 0}, {10, "j", 7, 1}, {19, "j", 7, 1}, {20, "j", 17, 2}, {30, "j", 9, 1}, {34, "j", 9, 1}, {35, "j", 17, 2}, {43, "j", 40, 3}, {60, "j", 40, 3}, {last, "j", 40, 3},
		{3, "k", 0, 1}, {50, "k", 0, 1}, {last, "k", (last - 3) / 2, 1}, {70, "l", 0, 0}, {last, "l", 0, 0},
	} {
		f, ok, e := record.Pace(n, c.job, c.at)
		if e != api.OK || ok != (c.den > 0) || f != (api.Fraction{Num: c.num, Den: c.den}) {
			t.Error(c, f, ok, e)
		}
	}
}

// ended are notes of jobs that are done and fail, some of them at the same moment.
func ended() []api.Note {
	return notes(
		by("a", 1, 1, begin("p", "k", 1)), by("a", 2, 1, begin("q", "j", 1)), by("a", 3, 1, begin("r", "a", 1)), by("a", 4, 1, begin("s", "z", 1)),
		by("a", 5, 2, layer("p", 1)), by("a", 6, 2, layer("q", 1)), by("a", 7, 2, layer("s", 1)), by("a", 8, 4, end("s")), by("a", 9, 7, end("p")), by("a", 10, 7, end("q")), by("a", 11, 8, fail("r")),
		by("b", 1, 9, undo("a", 9)), by("b", 2, 12, undo("b", 1)), by("b", 3, 15, begin("r", "y", 1)), by("b", 4, 15, layer("r", 1)), by("b", 5, last, end("r")),
	)
}

// P10.3: the jobs that were done within a window, as it is at its end.
func TestDone(t *testing.T) {
	for _, c := range []struct {
		from, to int
		want     string
	}{
		{0, 0, ""}, {0, 4, ""}, {0, 5, "z"}, {4, 5, "z"}, {5, 7, ""}, {4, 7, "z"}, {4, 8, "z j k"}, {7, 8, "j k"}, {7, 9, "j k"}, {5, 9, "j k"}, {8, 9, ""}, {8, 8, ""}, {7, 7, ""},
		{7, 10, "j"}, {0, 10, "z j"}, {0, 12, "z j"}, {0, 13, "z j k"}, {9, 13, ""}, {0, last, "z j k"}, {0, api.End, "z j k y"}, {last, api.End, "y"}, {api.End, api.End, ""}, {last, last, ""},
	} {
		if got, e := record.Done(ended(), api.Window{From: c.from, To: c.to}); e != api.OK || strings.Join(got, " ") != c.want {
			t.Error(c, got, e)
		}
	}
	first := notes(by("a", 1, 0, begin("p", "j", 1)), by("a", 2, 0, layer("p", 1)), by("a", 3, 0, end("p")))
	for to, want := range []int{0, 1, 1} {
		if got, e := record.Done(first, api.Window{To: to}); e != api.OK || len(got) != want {
			t.Error(to, got, e)
		}
	}
}

// P10.3: windows of no moments.
func TestWrongWindows(t *testing.T) {
	for _, w := range [][2]int{{-1, 5}, {least, 5}, {-1, -1}, {least, greatest}, {6, 5}, {1, 0}, {0, -1}, {greatest, 5}, {0, api.End + 1}, {api.End + 1, api.End + 1}, {0, greatest}, {greatest, greatest}, {greatest, least}, {least, least}} {
		fails(t, w, api.ErrArg, done(nil, api.Window{From: w[0], To: w[1]}), done(ended(), api.Window{From: w[0], To: w[1]}))
	}
}

// P10.3: how many of the jobs that are over have failed.
func TestFailed(t *testing.T) {
	for _, c := range []struct{ at, num, den int }{
		{4, 0, 1}, {7, 0, 1}, {8, 1, 4}, {9, 1, 3}, {12, 1, 4}, {last - 1, 1, 4}, {last, 1, 5},
	} {
		if f, e := record.Failed(ended(), c.at); e != api.OK || f != (api.Fraction{Num: c.num, Den: c.den}) {
			t.Error(c, f, e)
		}
	}
	for _, at := range []int{0, 1, 3} {
		fails(t, at, api.ErrNone, failed(ended(), at))
	}
	fails(t, "no notes", api.ErrNone, failed(nil, 0))
	fails(t, "one that runs", api.ErrNone, failed(series(begin("p", "j", 1)), last))
	fails(t, "one that does not count", api.ErrNone, failed(series(begin("p", "j", 1), fail("p"), undo("a", 2)), last))
	both := series(begin("p", "j", 1), fail("p"), begin("p", "k", 1), fail("p"))
	if f, e := record.Failed(both, last); e != api.OK || f != (api.Fraction{Num: 1, Den: 1}) {
		t.Error(f, e)
	}
	if f, e := record.Failed(append(both, by("a", 9, 50, begin("p", "l", 1)), by("a", 10, 51, layer("p", 1)), by("a", 11, 52, end("p")), by("a", 12, 53, begin("p", "m", 1)), by("a", 13, 54, layer("p", 1)), by("a", 14, 55, end("p"))), last); e != api.OK || f != (api.Fraction{Num: 1, Den: 2}) {
		t.Error(f, e)
	}
}

// P10.3: random notes, looked back at.
func TestRandomDone(t *testing.T) {
	r := rand.New(rand.NewSource(4))
	some := 0
	for range 3000 {
		n := randomNotes(r)
		from := r.Intn(30)
		w := api.Window{From: from, To: from + r.Intn(40)}
		l, _, _ := follow(n, w.To-1)
		var ends []api.Note
		bad := 0
		for _, job := range []string{"j", "k", "l", "m", "n"} {
			i := l.began(job)
			if i < 0 {
				continue
			}
			over := l.over(i)
			over.Job = job
			if over.Kind == api.NoteFail {
				bad++
			} else if over.Kind == api.NoteEnd {
				ends = append(ends, over)
			}
		}
		all := bad + len(ends)
		if w.To > 0 && all == 0 {
			fails(t, n, api.ErrNone, failed(n, w.To-1))
		} else if w.To > 0 {
			if f, e := record.Failed(n, w.To-1); e != api.OK || f.Num*all != bad*f.Den || !isLowest(f) {
				t.Fatal(n, w, f, e)
			}
		}
		ends = slices.DeleteFunc(ends, func(x api.Note) bool { return x.At < w.From })
		slices.SortStableFunc(ends, func(a, b api.Note) int { return cmp.Compare(a.At, b.At) })
		var want []string
		for _, x := range ends {
			want = append(want, x.Job)
		}
		if len(want) > 1 {
			some++
		}
		if got, e := record.Done(n, w); e != api.OK || !slices.Equal(got, want) {
			t.Fatal(n, w, got, want, e)
		}
	}
	if some < 20 {
		t.Error(some)
	}
}
