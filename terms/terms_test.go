package terms_test

import (
	"slices"
	"strconv"
	"strings"
	"testing"

	"beadlayer/api"
	"beadlayer/terms"
)

// A string that is written has at most MaxText bytes.
func TestBounded(t *testing.T) {
	most := strings.Repeat("a", api.MaxText)
	for text, e := range map[string]api.Errno{"": api.OK, "a\n": api.OK, most: api.OK, most + "a": api.ErrLarge, most + most: api.ErrLarge} {
		want := text
		if e != api.OK {
			want = ""
		}
		if got, again := terms.Bounded(text); got != want || again != e {
			t.Errorf("%.20q: %.20q, %v", text, got, again)
		}
	}
}

// Z9: a line ends at a line feed, which does not belong to it.
func TestLines(t *testing.T) {
	long := strings.Repeat("a\n", api.MaxText/2)
	for _, c := range []struct {
		text  string
		lines []string
		n     int
		e     api.Errno
	}{
		{"", nil, 0, api.OK},
		{"\n", []string{""}, 0, api.OK},
		{"a\n\nb c\r\n", []string{"a", "", "b c\r"}, 0, api.OK},
		{"a", nil, 0, api.ErrSyntax},
		{"a\nb\nc", []string{"a", "b"}, 2, api.ErrSyntax},
		{"a\nbad\nb\n", []string{"a", "bad"}, 1, api.ErrSyntax},
		{"a\nb\nbad", []string{"a", "b"}, 2, api.ErrSyntax},
		{"bad\nb", []string{"bad"}, 0, api.ErrSyntax},
		{long, slices.Repeat([]string{"a"}, api.MaxText/2), 0, api.OK},
		{long + "b", nil, 0, api.ErrLarge},
		{"bad\n" + long, nil, 0, api.ErrLarge},
	} {
		var lines []string
		n, e := terms.Lines(c.text, func(line string) bool {
			lines = append(lines, line)
			return line != "bad"
		})
		if n != c.n || e != c.e || !slices.Equal(lines, c.lines) {
			t.Errorf("%.20q: %.20q, %d, %v", c.text, lines, n, e)
		}
	}
}

// A list has an element in each line; then it is checked as a whole.
func TestRead(t *testing.T) {
	long := strings.Repeat("1\n", api.MaxText/2)
	for _, c := range []struct {
		text string
		list []int
		n    int
		e    api.Errno
	}{
		{"", nil, 0, api.OK},
		{"3\n", []int{3}, 0, api.OK},
		{"3\n-1\n3\n", []int{3, -1, 3}, 0, api.OK},
		{"3\nx\n-7\n", nil, 1, api.ErrSyntax},
		{"3\n-7", nil, 1, api.ErrSyntax},
		{"3\n\n", nil, 1, api.ErrSyntax},
		{"3\n-7\n", nil, 0, api.ErrRule},
		{"-7\nx\n", nil, 1, api.ErrSyntax},
		{long, slices.Repeat([]int{1}, api.MaxText/2), 0, api.OK},
		{long + "1", nil, 0, api.ErrLarge},
	} {
		list, n, e := terms.Read(c.text, terms.Number, func(list []int) api.Errno {
			if slices.Contains(list, -7) {
				return api.ErrRule
			}
			return api.OK
		})
		if n != c.n || e != c.e || !slices.Equal(list, c.list) {
			t.Errorf("%.20q: %.20v, %d, %v", c.text, list, n, e)
		}
	}
}

// Kinds are told by words, each one by its own.
func TestKind(t *testing.T) {
	word := func(kind int) string { return []string{"none", "one", "two", "three"}[kind] }
	for told, want := range map[string]int{"one": 1, "two": 2, "none": 0, "three": 0, "": 0, "tw": 0, "twos": 0, "One": 0} {
		if kind, ok := terms.Kind(told, 2, word); kind != want || ok != (want > 0) {
			t.Errorf("%q: %d, %v", told, kind, ok)
		}
	}
	if kind, ok := terms.Kind("one", 0, word); kind != 0 || ok {
		t.Error(kind, ok)
	}
}

// Z10: decimal digits, without a 0 before others, with - before them if they are below 0.
func TestNumber(t *testing.T) {
	for _, n := range []int{0, 1, 9, 10, 100, 999_999_999_999_999, -1, -10, -100_000, -999_999_999_999_999} {
		if got, ok := terms.Number(strconv.Itoa(n)); !ok || got != n {
			t.Error(n, got, ok)
		}
	}
	for _, word := range []string{
		"", "-", "-0", "00", "01", "-01", "--1", "+1", "1-", " 1", "1 ", "1.0", "1e3", "0x1", "1_000", "a", "1a", "/", ":", "1:", "1/", "١", "\xff",
		"1000000000000000", "-1000000000000000", "0000000000000001", strings.Repeat("9", 100),
	} {
		if n, ok := terms.Number(word); ok || n != 0 {
			t.Errorf("%q: %d, %v", word, n, ok)
		}
	}
}

func TestNumbers(t *testing.T) {
	if n, ok := terms.Numbers([]string{"3", "-2", "0"}); !ok || !slices.Equal(n, []int{3, -2, 0}) {
		t.Error(n, ok)
	}
	if n, ok := terms.Numbers(nil); !ok || len(n) != 0 {
		t.Error(n, ok)
	}
	for _, words := range [][]string{{""}, {"1", "x"}, {"x", "1"}, {"1", "", "2"}} {
		if n, ok := terms.Numbers(words); ok || len(n) != 0 {
			t.Errorf("%q: %d, %v", words, n, ok)
		}
	}
}

// From one number to another one, both of them with it.
func TestWithin(t *testing.T) {
	for _, c := range []struct {
		n, from, to int
		is          bool
	}{
		{0, 0, 0, true}, {1, 0, 0, false}, {-1, 0, 0, false}, {3, 3, 5, true}, {4, 3, 5, true}, {5, 3, 5, true}, {2, 3, 5, false}, {6, 3, 5, false},
		{4, 5, 3, false}, {-4, -5, -3, true}, {-1 << 63, -1 << 63, 1<<63 - 1, true}, {1<<63 - 1, -1 << 63, 1<<63 - 1, true}, {-1 << 63, 0, 1<<63 - 1, false},
	} {
		if terms.Within(c.n, c.from, c.to) != c.is {
			t.Error(c)
		}
	}
}

// Z11: a moment is a millisecond from 0 to End - 1; its day is it divided by DayLong, rounded down.
func TestMoments(t *testing.T) {
	for at, is := range map[int]bool{-1 << 63: false, -1: false, 0: true, 1: true, api.End - 1: true, api.End: false, 1<<63 - 1: false} {
		if terms.IsMoment(at) != is {
			t.Error(at)
		}
	}
	for at, day := range map[int]int{0: 0, api.DayLong - 1: 0, api.DayLong: 1, 2*api.DayLong - 1: 1, api.End - 1: api.MaxDay} {
		if got := terms.Day(at); got != day {
			t.Error(at, got)
		}
	}
}

// A window does not end before it begins, and has no moments but those that there are.
func TestWindows(t *testing.T) {
	const least, greatest = -1 << 63, 1<<63 - 1
	for _, c := range []struct {
		from, to int
		is       bool
	}{
		{0, 0, true}, {0, 1, true}, {7, 7, true}, {0, api.End, true}, {api.End, api.End, true}, {api.End - 1, api.End, true},
		{-1, 0, false}, {-1, -1, false}, {1, 0, false}, {api.End, api.End - 1, false}, {0, api.End + 1, false}, {api.End + 1, api.End + 1, false},
		{least, greatest, false}, {greatest, least, false}, {least, least, false}, {greatest, greatest, false}, {0, greatest, false}, {least, 0, false},
	} {
		if terms.IsWindow(api.Window{From: c.from, To: c.to}) != c.is {
			t.Error(c)
		}
	}
}

// Z11: a key has 1 to MaxName bytes: small letters, digits, - and _, the first one a small letter.
func TestKeys(t *testing.T) {
	for _, s := range []string{"a", "z", "a0", "z9", "a-", "a_b-c", strings.Repeat("a", api.MaxName)} {
		if !terms.IsKey(s) {
			t.Errorf("%q", s)
		}
	}
	for _, s := range []string{"", "0", "0a", "-a", "_a", "A", "aA", "a b", "a ", " a", "a.", "a\n", "a\x00", "ä", "aä", "a`", "a{", "`", "{", "a/", "a:", strings.Repeat("a", api.MaxName+1)} {
		if terms.IsKey(s) {
			t.Errorf("%q", s)
		}
	}
}

// Z11: plain strings are UTF-8 without control bytes, and without blanks at the ends or next to each other.
func TestPlain(t *testing.T) {
	for _, s := range []string{"", "a", "a b c", "Größe 3", "!~", "\u0080", "\u00a0", "\U0010ffff", "a \u3000"} {
		if !terms.IsPlain(s) {
			t.Errorf("%q", s)
		}
	}
	for _, s := range []string{
		" ", " a", "a ", "a  b", "a\n", "\x00", "\x1f", "\x7f", "a\tb",
		"\x80", "a\xff", "\xc3", "\xc0\x80", "\xe0\x80\x80", "\xed\xa0\x80", "\xf4\x90\x80\x80", "\xf8\x88\x80\x80\x80",
	} {
		if terms.IsPlain(s) {
			t.Errorf("%q", s)
		}
	}
}

// Z11: a bit string consists of the bytes 0 and 1, and may be empty.
func TestBits(t *testing.T) {
	for s, is := range map[string]bool{"": true, "0": true, "1": true, "0110": true, "2": false, "/": false, "01 ": false, "0\x00": false, "01\n": false, "0b1": false} {
		if terms.IsBits(s) != is {
			t.Errorf("%q", s)
		}
	}
}
