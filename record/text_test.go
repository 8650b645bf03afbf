package record_test

import (
	"math/rand"
	"slices"
	"strconv"
	"strings"
	"testing"

	"beadlayer/api"
	"beadlayer/record"
)

// P10.5: a line for each note, and back.
func TestText(t *testing.T) {
	long := strings.Repeat("z", api.MaxName)
	for _, c := range []struct {
		n    []api.Note
		want string
	}{
		{nil, ""},
		{notes(by("a", 2, 10, begin("p", "j", 2))), "a 2 10 begin p j 2\n"},
		{notes(by("a", 3, 20, layer("p", 1))), "a 3 20 layer p 1\n"},
		{notes(by("a-b", 1, 0, end("p"))), "a-b 1 0 end p\n"},
		{notes(by("a", 1, 5, fail("p_1"))), "a 1 5 fail p_1\n"},
		{notes(by("a", 1, 5, load("p", "s", 700))), "a 1 5 load p s 700\n"},
		{notes(by("a", 1, 5, use("p", 7))), "a 1 5 use p 7\n"},
		{notes(by("a", 1, 5, undo("b", 9))), "a 1 5 undo b 9\n"},
		{notes(by(long, api.MaxNo, last, load(long, long, api.MaxFlow))), long + " 1000000 345686399999 load " + long + " " + long + " 100000000\n"},
		{notes(by(long, 1, 7, undo(long, api.MaxNo))), long + " 1 7 undo " + long + " 1000000\n"},
		{notes(by("begin", 1, 7, begin("begin", "end", 1_000)), by("undo", 1, 7, end("undo"))), "begin 1 7 begin begin end 1000\nundo 1 7 end undo\n"},
		{sample()[5:8], "a 5 41 end p\nb 2 41 begin q k 3\nb 3 50 layer q 2\n"},
	} {
		if s, e := record.Text(c.n); e != api.OK || s != c.want {
			t.Errorf("%v %q %v", c.n, s, e)
		}
		if n, i, e := record.Read(c.want); e != api.OK || i != 0 || !slices.Equal(n, c.n) {
			t.Errorf("%q %v %v %v", c.want, n, i, e)
		}
	}
	r := rand.New(rand.NewSource(6))
	for range 500 {
		n := randomNotes(r)
		s, e := record.Text(n)
		if e != api.OK {
			t.Fatal(n, e)
		}
		if back, i, e := record.Read(s); e != api.OK || i != 0 || !slices.Equal(back, n) {
			t.Fatal(n, back, i, e)
		}
	}
}

// lineOf is the text of a note, which can be wrong.
func lineOf(x api.Note) string {
	words := []string{x.Station, strconv.Itoa(x.No), strconv.Itoa(x.At)}
	switch x.Kind {
	case api.NoteBegin:
		words = append(words, "begin", x.Printer, x.Job, strconv.Itoa(x.N))
	case api.NoteLayer:
		words = append(words, "layer", x.Printer, strconv.Itoa(x.N))
	case api.NoteEnd:
		words = append(words, "end", x.Printer)
	case api.NoteFail:
		words = append(words, "fail", x.Printer)
	case api.NoteLoad:
		words = append(words, "load", x.Printer, x.Spool, strconv.Itoa(x.N))
	case api.NoteUse:
		words = append(words, "use", x.Printer, strconv.Itoa(x.N))
	case api.NoteUndo:
		words = append(words, "undo", x.Of, strconv.Itoa(x.Other))
	}
	return strings.Join(words, " ") + "\n"
}

// P10.5: what is told in lines that have the form, and is not well formed.
func TestReadWrongNotes(t *testing.T) {
	for _, c := range wrongNotes() {
		line := lineOf(c.x)
		isKind := c.x.Kind >= api.NoteBegin && c.x.Kind <= api.NoteUndo
		// A text tells neither what is no kind, nor an empty word, nor fields that are not used.
		if !isKind || strings.Contains(" "+strings.TrimSuffix(line, "\n")+" ", "  ") || c.e == api.ErrForm {
			continue
		}
		fails(t, c.name, c.e, read(line), read("b 1 0 end p\n"+line), read(line+"b 1 0 end p\n"))
	}
	for s, e := range map[string]api.Errno{
		"":                                        api.OK,
		"a 1 5 end p\n":                           api.OK,
		"a 1 5 end p\na 2 5 end p\n":              api.OK,
		"a 1000000 345686399999 end p\n":          api.OK,
		"a 1000001 5 end p\n":                     api.ErrArg,
		"a 999999999999999 5 end p\n":             api.ErrArg,
		"a -999999999999999 5 end p\n":            api.ErrArg,
		"a 1 345686400000 end p\n":                api.ErrArg,
		"a 1 -1 end p\n":                          api.ErrArg,
		"A 0 -1 end P\n":                          api.ErrName,
		"a 1 5 end P\n":                           api.ErrName,
		"a 1 5 end p\r\n":                         api.ErrName,
		"a 1 5 begin p 5 5\n":                     api.ErrName,
		"a 1 5 begin p j 1001\n":                  api.ErrArg,
		"a 1 5 begin p j -1\n":                    api.ErrArg,
		"a 1 5 load p \xff 3\n":                   api.ErrName,
		"a 1 5 load p s\tt 0\n":                   api.ErrName,
		"a 1 5 undo ä 5\n":                        api.ErrName,
		"a 1 5 undo a 1000001\n":                  api.ErrArg,
		"a 1 5 end p\na 1 5 end p\n":              api.ErrOrder,
		"a 2 5 end p\na 1 5 end p\n":              api.ErrOrder,
		"b 1 5 end p\na 1 5 end p\n":              api.ErrOrder,
		"a 1 5 end p\na 2 4 end P\n":              api.ErrName,
		"a 1 5 end p\na 1 6 end p\n":              api.ErrTwice,
		"a 1 5 end p\na 1 6 end p\nA 1 1 end p\n": api.ErrName,
		strings.Repeat("A 1 5 end p\n", 2_001):    api.ErrLarge,
		strings.Repeat("a 1 5 end p\n", 16_666):   api.ErrLarge,
	} {
		n, i, got := record.Read(s)
		if got != e || i != 0 || e != api.OK && len(n) > 0 {
			t.Errorf("%.100q %v %v %v", s, len(n), i, got)
		}
	}
}

// P10.5: a text has at most MaxText bytes, after all else.
func TestLongText(t *testing.T) {
	var n []api.Note
	for i := range api.MaxNotes {
		n = append(n, by("m", 1_001+i, 10_000+i, load(strings.Repeat("p", api.MaxName), strings.Repeat("s", api.MaxName-2), 1)))
	}
	s, e := record.Text(n)
	if e != api.OK || len(s) != api.MaxText {
		t.Fatal(len(s), e)
	}
	if back, i, e := record.Read(s); e != api.OK || i != 0 || !slices.Equal(back, n) {
		t.Error(len(back), i, e)
	}
	longer := slices.Clone(n)
	longer[7].N = 10
	fails(t, "too long", api.ErrLarge, text(longer))
	longer[1_999].No = 1_001
	fails(t, "too long, and a number twice", api.ErrTwice, text(longer))
	longer[1_500].At = 1
	fails(t, "too long, and not in order", api.ErrOrder, text(longer))
	longer[3].Kind = 0
	fails(t, "too long, and no kind", api.ErrKind, text(longer))
	fails(t, "too many", api.ErrLarge, text(many(api.MaxNotes+1)))
	fails(t, "too long to be read", api.ErrLarge, read(s+"\n"), read(s+"m 9000 90000 end p\n"), read(strings.Repeat("x", api.MaxText+1)), read(strings.Repeat("\n", api.MaxText+1)))
}

// P10.5, Z9, Z10: the first line that does not have the form.
func TestReadSyntax(t *testing.T) {
	for _, line := range []string{
		"", " ", "a", "a 1", "a 1 5", "a 1 5 ", "a 1 5 end", "a 1 5 end ", "a 1 5 end  p", "a 1 5 end p ", " a 1 5 end p", "a  1 5 end p", "a 1  5 end p", "a 1 5  end p", " 1 5 end p", "1 5 end p", "a 1 end p", "a 5 end p", "end p",
		"a 1 5 end p 1", "a 1 5 end p q", "a 1 5 fail", "a 1 5 fail p 1", "a 1 5 fail ", "a 1 5 layer p", "a 1 5 layer 1", "a 1 5 layer p 1 2", "a 1 5 layer p x", "a 1 5 layer p ", "a 1 5 layer  1", "a 1 5 use p", "a 1 5 use 1", "a 1 5 use p p", "a 1 5 use p s 1",
		"a 1 5 begin p j", "a 1 5 begin p 1", "a 1 5 begin p j k", "a 1 5 begin p j 1 1", "a 1 5 begin p  1", "a 1 5 begin  j 1", "a 1 5 begin p j ", "a 1 5 load p s", "a 1 5 load p 1", "a 1 5 load p s t", "a 1 5 load p s 1 ", "a 1 5 load  s 1", "a 1 5 load p  1",
		"a 1 5 undo", "a 1 5 undo a", "a 1 5 undo 1", "a 1 5 undo a b", "a 1 5 undo a 1 1", "a 1 5 undo  1", "a 1 5 undo a ",
		"a 1 5 End p", "a 1 5 ends p", "a 1 5 en p", "a 1 5 p end", "a 1 5 3 p", "a 1 5 done p", "a 1 5 start p j 1", "a 1 5 NoteEnd p", "a\t1 5 end p", "a 1\t5 end p", "a 1 5\tend p", "a 1 5 end\tp",
		"a x 5 end p", "a 1 x end p", "1 a 5 end p", "a 01 5 end p", "a 1 05 end p", "a -0 5 end p", "a 1 -0 end p", "a +1 5 end p", "a 1 +5 end p", "a 1. 5 end p", "a 1 5e0 end p", "a 0x1 5 end p", "a 1_0 5 end p", "a - 5 end p", "a ١ 5 end p",
		"a 1000000000000000 5 end p", "a 1 1000000000000000 end p", "a 1 -1000000000000000 end p", "a 0000000000000001 5 end p",
		"a 1 5 layer p 01", "a 1 5 layer p -0", "a 1 5 use p +1", "a 1 5 use p 1.", "a 1 5 begin p j 1\r", "a 1 5 undo a 01", "a 1 5 load p s 1000000000000000", "a 1 5 load p s -1000000000000000",
	} {
		for at, s := range []string{line + "\na 1 5 end p\n", "a 1 5 end p\n" + line + "\na 1 5 end p\n", "a 1 5 end p\nA 0 -1 end P\n" + line + "\nbad\n"} {
			if n, i, e := record.Read(s); e != api.ErrSyntax || i != at || len(n) > 0 {
				t.Errorf("%q %v %v %v", s, n, i, e)
			}
		}
		if n, i, e := record.Read("a 1 5 end p\n" + line); line != "" && (e != api.ErrSyntax || i != 1 || len(n) > 0) {
			t.Errorf("%q %v %v %v", line, n, i, e)
		}
	}
	for s, at := range map[string]int{
		"a 1 5 end p":                                    0,
		"a 1 5 use p 1":                                  0,
		"a 1 5 end p\na 2":                               1,
		"a 1 5 end p\na 2 5 end p":                       1,
		"a 1 5 end p\n\n":                                1,
		"a 1 5 END p\na 2 5 end p":                       0,
		"A 1 5 end p\na 1 5 end p\nx":                    2,
		strings.Repeat("x", api.MaxText):                 0,
		strings.Repeat("a 1 5 end p\n", 2_001) + "bad\n": 2_001,
	} {
		if n, i, e := record.Read(s); e != api.ErrSyntax || i != at || len(n) > 0 {
			t.Errorf("%.100q %v %v %v", s, n, i, e)
		}
	}
}
