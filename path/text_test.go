package path_test

import (
	"math/rand"
	"slices"
	"strings"
	"testing"

	"beadlayer/api"
	"beadlayer/path"
)

const someText = "open\n10 0\n20 0\nclosed\n0 0\n4 0\n4 -4\n"

func some() []api.Path { return paths(open(10, 0, 20, 0), closed(0, 0, 4, 0, 4, -4)) }

// P5.5: what is written is read to an equal value.
func TestTextAndRead(t *testing.T) {
	for _, c := range []struct {
		p    []api.Path
		text string
	}{
		{nil, ""},
		{some(), someText},
		{paths(open(-far, far)), "open\n-100000 100000\n"},
		{paths(closed(1, 1, 1, 1, 1, 1), open(0, -7), open(0, -7)), "closed\n1 1\n1 1\n1 1\nopen\n0 -7\nopen\n0 -7\n"},
	} {
		if text, e := path.Text(c.p); e != api.OK || text != c.text {
			t.Errorf("%v %q %v", c.p, text, e)
		}
		if p, n, e := path.Read(c.text); e != api.OK || n != 0 || !samePaths(p, c.p) {
			t.Errorf("%q %v %v %v", c.text, p, n, e)
		}
	}
	r := rand.New(rand.NewSource(11))
	all := [][]api.Path{slices.Repeat(paths(open(1, 1)), api.MaxPaths), paths(long(api.MaxRing))}
	for range 300 {
		all = append(all, randomPaths(r, r.Intn(6), 5))
	}
	for _, p := range all {
		text, e := path.Text(p)
		if e != api.OK {
			t.Fatal(p, e)
		}
		if got, n, e := path.Read(text); e != api.OK || n != 0 || !samePaths(got, p) {
			t.Fatal(p, got, n, e)
		}
	}
}

// P5.5: the largest text, and one that is too large by a byte.
func TestLargeText(t *testing.T) {
	const line = "10000 10000\n"
	most := slices.Repeat([]int{10_000, 10_000}, 400)
	for _, c := range []struct {
		x, y int
		last string
		size int
		e    api.Errno
	}{
		{100_000, -10_000, "100000 -10000\n", api.MaxText, api.OK},
		{-100_000, -10_000, "-100000 -10000\n", api.MaxText + 1, api.ErrLarge},
	} {
		p := append(slices.Repeat(paths(open(most...)), 41), open(append(slices.Clone(most[:2*248]), c.x, c.y)...))
		want := strings.Repeat("open\n"+strings.Repeat(line, 400), 41) + "open\n" + strings.Repeat(line, 248) + c.last
		if len(want) != c.size {
			t.Fatal(len(want))
		}
		text, e := path.Text(p)
		if e != c.e || e == api.OK && text != want || e != api.OK && text != "" {
			t.Error(len(text), e)
		}
		read, n, e := path.Read(want)
		if e != c.e || n != 0 || e == api.OK && !samePaths(read, p) || e != api.OK && len(read) > 0 {
			t.Error(len(read), n, e)
		}
	}
	if text, e := path.Text(slices.Repeat(paths(long(api.MaxRing)), api.MaxPaths)); e != api.ErrLarge || text != "" {
		t.Error(len(text), e)
	}
}

// P5.5: the first line without the form.
func TestReadForm(t *testing.T) {
	for _, c := range []struct {
		text string
		line int
	}{
		{"\n", 0}, {" ", 0}, {"open", 0}, {"closed", 0}, {"1 1\n", 0}, {"1 1", 0}, {"ring\n", 0}, {"Open\n", 0}, {"opened\n", 0}, {"close\n", 0}, {"open \n", 0}, {" closed\n", 0}, {"open\r\n", 0}, {"x\nopen", 0}, {"open 1 1\n", 0}, {"open closed\n", 0}, {"openclosed\n", 0},
		{"open\n1\n", 1}, {"open\n1 2 3\n", 1}, {"open\n1  2\n", 1}, {"open\n 1 2\n", 1}, {"open\n1 2 \n", 1}, {"open\n1\t2\n", 1}, {"open\n1,2\n", 1}, {"open\n\n", 1}, {"open\nring\n", 1},
		{"open\n01 2\n", 1}, {"open\n1 00\n", 1}, {"open\n-0 1\n", 1}, {"open\n1 -01\n", 1}, {"open\n+1 1\n", 1}, {"open\n1 -\n", 1}, {"open\n1 2.0\n", 1}, {"open\n1 0x1\n", 1}, {"open\n--1 1\n", 1}, {"open\n1 \u0663\n", 1},
		{"open\n1000000000000000 1\n", 1}, {"open\n1 -1000000000000000\n", 1},
		{"open\nclosed\n1 1\n1 2", 3}, {"closed\n1 1\n2 2\nx\ny\n", 3}, {someText + "x", 7}, {someText + "1 1", 7}, {someText + "open", 7}, {someText + "\n", 7}, {someText[:len(someText)-1], 6},
		{"open\nopen\nopen\n1\n", 3},
	} {
		if p, n, e := path.Read(c.text); e != api.ErrSyntax || n != c.line || len(p) > 0 {
			t.Errorf("%q %v %v %v", c.text, p, n, e)
		}
	}
}

// P5.5: what has the form, and is no list of paths.
func TestReadChecks(t *testing.T) {
	for _, c := range []struct {
		text string
		e    api.Errno
	}{
		{"open\n", api.ErrNone},
		{"closed\n", api.ErrNone},
		{"open\n0 0\nopen\nopen\n0 0\n", api.ErrNone},
		{"closed\n0 0\n1 0\n", api.ErrForm},
		{"open\n0 100001\n", api.ErrArg},
		{"open\n0 0\n-999999999999999 0\n", api.ErrArg},
		{"open\n999999999999999 0\nclosed\n0 0\n", api.ErrArg},
		{strings.Repeat("open\n0 0\n", api.MaxPaths+1), api.ErrLarge},
		{"open\n" + strings.Repeat("0 0\n", api.MaxRing+1), api.ErrLarge},
		{strings.Repeat("open\n", api.MaxText/5), api.ErrLarge},
		{strings.Repeat("open\n", api.MaxText/5) + "x", api.ErrLarge},
		{strings.Repeat("x", api.MaxText+1), api.ErrLarge},
	} {
		if p, n, e := path.Read(c.text); e != c.e || n != 0 || len(p) > 0 {
			t.Errorf("%.40q %v %v %v", c.text, p, n, e)
		}
	}
	if p, n, e := path.Read(strings.Repeat("open\n", api.MaxPaths+1) + "x"); e != api.ErrSyntax || n != api.MaxPaths+1 || len(p) > 0 {
		t.Error(p, n, e)
	}
	if p, n, e := path.Read(strings.Repeat("x", api.MaxText)); e != api.ErrSyntax || n != 0 || len(p) > 0 {
		t.Error(p, n, e)
	}
	if p, n, e := path.Read("open\n" + strings.Repeat("0 0\n", api.MaxRing)); e != api.OK || n != 0 || len(p) != 1 || len(p[0].Points) != api.MaxRing {
		t.Error(p, n, e)
	}
}

// P5.5: a text that is read is the one that is written again.
func TestReadRandom(t *testing.T) {
	r := rand.New(rand.NewSource(12))
	read := 0
	for range 20_000 {
		text := []byte(someText)
		for range 1 + r.Intn(2) {
			i := r.Intn(len(text))
			switch next := "0123456789- \nopencls"[r.Intn(20)]; r.Intn(3) {
			case 0:
				text[i] = next
			case 1:
				text = append(text[:i], text[i+1:]...)
			default:
				text = append(text[:i], append([]byte{next}, text[i:]...)...)
			}
		}
		p, n, e := path.Read(string(text))
		if e != api.OK {
			if e != api.ErrSyntax && n != 0 {
				t.Fatalf("%q %v %v", text, n, e)
			}
			continue
		}
		read++
		if again, e := path.Text(p); e != api.OK || n != 0 || again != string(text) {
			t.Fatalf("%q %v %q %v", text, p, again, e)
		}
	}
	if read < 500 {
		t.Error(read)
	}
}
