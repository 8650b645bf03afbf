package region_test

import (
	"math/rand"
	"strings"
	"testing"

	"beadlayer/api"
	"beadlayer/region"
)

const frameText = "ring\n0 0\n10 0\n10 10\n0 10\nring\n4 4\n4 6\n6 6\n6 4\n"

// P3.5: what is written is read to an equal value.
func TestTextAndRead(t *testing.T) {
	for _, c := range []struct {
		r    []api.Ring
		text string
	}{
		{nil, ""},
		{frame(), frameText},
		{[]api.Ring{square(-far, -far, 2*far)}, "ring\n-100000 -100000\n100000 -100000\n100000 100000\n-100000 100000\n"},
	} {
		if text, e := region.Text(c.r); e != api.OK || text != c.text {
			t.Errorf("%v %q %v", c.r, text, e)
		}
		if r, n, e := region.Read(c.text); e != api.OK || n != 0 || !sameRings(r, c.r) {
			t.Errorf("%q %v %v %v", c.text, r, n, e)
		}
	}
	r := rand.New(rand.NewSource(16))
	all := [][]api.Ring{combs(), squares(api.MaxRings)}
	for range 300 {
		all = append(all, randomRegion(r))
	}
	for _, rings := range all {
		text, e := region.Text(rings)
		if e != api.OK {
			t.Fatal(rings, e)
		}
		if got, n, e := region.Read(text); e != api.OK || n != 0 || !sameRings(got, rings) {
			t.Fatal(rings, got, n, e)
		}
	}
}

// P3.5: the first line without the form.
func TestReadForm(t *testing.T) {
	for _, c := range []struct {
		text string
		line int
	}{
		{"\n", 0}, {" ", 0}, {"ring", 0}, {"1 1\n", 0}, {"1 1", 0}, {"rings\n", 0}, {"Ring\n", 0}, {"ring \n", 0}, {" ring\n", 0}, {"ring\r\n", 0}, {"x\nring", 0},
		{"ring\n1\n", 1}, {"ring\n1 2 3\n", 1}, {"ring\n1  2\n", 1}, {"ring\n 1 2\n", 1}, {"ring\n1 2 \n", 1}, {"ring\n1\t2\n", 1}, {"ring\n1,2\n", 1}, {"ring\n\n", 1},
		{"ring\n01 2\n", 1}, {"ring\n1 00\n", 1}, {"ring\n-0 1\n", 1}, {"ring\n1 -01\n", 1}, {"ring\n+1 1\n", 1}, {"ring\n1 -\n", 1}, {"ring\n1 2.0\n", 1}, {"ring\n1 0x1\n", 1}, {"ring\n--1 1\n", 1},
		{"ring\n1000000000000000 1\n", 1}, {"ring\n1 -1000000000000000\n", 1},
		{"ring 1 1\n", 0}, {"ring\nring\n1 1\n1 2", 3}, {"ring\n1 1\n2 2\nx\ny\n", 3}, {frameText + "x", 10}, {frameText + "1 1", 10}, {frameText + "\n", 10}, {frameText[:len(frameText)-1], 9},
		{"ring\nring\nring\n1\n", 3},
	} {
		if r, n, e := region.Read(c.text); e != api.ErrSyntax || n != c.line || len(r) > 0 {
			t.Errorf("%q %v %v %v", c.text, r, n, e)
		}
	}
}

// P3.5: what has the form, and is no region.
func TestReadChecks(t *testing.T) {
	for _, c := range []struct {
		text string
		e    api.Errno
	}{
		{"ring\n", api.ErrForm},
		{"ring\n0 0\n1 0\n", api.ErrForm},
		{"ring\n0 0\n1 0\n0 100001\n", api.ErrArg},
		{"ring\n0 0\n1 0\n0 -999999999999999\n", api.ErrArg},
		{"ring\n0 0\n1 0\n0 999999999999999\n", api.ErrArg},
		{"ring\n0 0\n1 0\n0 1\n0 0\n", api.ErrTwice},
		{"ring\n0 0\n1 0\n2 0\n", api.ErrConflict},
		{"ring\n0 0\n1 0\n0 1\nring\n0 0\n1 0\n0 1\n", api.ErrConflict},
		{strings.Repeat("ring\n0 0\n", api.MaxRings+1), api.ErrLarge},
		{"ring\n" + strings.Repeat("0 0\n", api.MaxCorners+1), api.ErrLarge},
		{strings.Repeat("ring\n", api.MaxText/5), api.ErrLarge},
		{strings.Repeat("ring\n", api.MaxText/5) + "x", api.ErrLarge},
		{strings.Repeat("x", api.MaxText+1), api.ErrLarge},
	} {
		if r, n, e := region.Read(c.text); e != c.e || n != 0 || len(r) > 0 {
			t.Errorf("%.40q %v %v %v", c.text, r, n, e)
		}
	}
	if r, n, e := region.Read(strings.Repeat("x", api.MaxText)); e != api.ErrSyntax || n != 0 || len(r) > 0 {
		t.Error(r, n, e)
	}
	if r, n, e := region.Read(strings.Repeat("ring\n", api.MaxText/5-1) + "ring "); e != api.ErrSyntax || n != api.MaxText/5-1 || len(r) > 0 {
		t.Error(len(r), n, e)
	}
}

// P3.5: a text that is read is the one that is written again.
func TestReadRandom(t *testing.T) {
	r := rand.New(rand.NewSource(17))
	read := 0
	for range 20_000 {
		text := []byte(frameText)
		for range 1 + r.Intn(2) {
			i := r.Intn(len(text))
			switch next := "0123456789- \nring"[r.Intn(17)]; r.Intn(3) {
			case 0:
				text[i] = next
			case 1:
				text = append(text[:i], text[i+1:]...)
			default:
				text = append(text[:i], append([]byte{next}, text[i:]...)...)
			}
		}
		rings, n, e := region.Read(string(text))
		if e != api.OK {
			if e != api.ErrSyntax && n != 0 {
				t.Fatalf("%q %v %v", text, n, e)
			}
			continue
		}
		read++
		if again, e := region.Text(rings); e != api.OK || n != 0 || again != string(text) {
			t.Fatalf("%q %v %q %v", text, rings, again, e)
		}
	}
	if read < 500 {
		t.Error(read)
	}
}
