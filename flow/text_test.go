package flow_test

import (
	"math/rand"
	"slices"
	"strings"
	"testing"

	"beadlayer/api"
	"beadlayer/flow"
)

// P7.5: a line for each draw, and back.
func TestText(t *testing.T) {
	long := strings.Repeat("z", api.MaxName)
	for _, c := range []struct {
		d    []api.Draw
		want string
	}{
		{nil, ""},
		{[]api.Draw{draw(3, "a", -10)}, "3 a -10\n"},
		{[]api.Draw{draw(0, "b-1", 1), draw(api.End-1, "a_", api.MaxFilament), draw(5, long, -api.MaxFilament)}, "0 b-1 1\n345686399999 a_ 1000000000\n5 " + long + " -1000000000\n"},
	} {
		if s, e := flow.Text(c.d); e != api.OK || s != c.want {
			t.Errorf("%v %q %v", c.d, s, e)
		}
		if d, n, e := flow.Read(c.want); e != api.OK || n != 0 || !slices.Equal(d, c.d) {
			t.Errorf("%q %v %v %v", c.want, d, n, e)
		}
	}
	r := rand.New(rand.NewSource(10))
	for range 300 {
		d := randomDraws(r, spools(make([]int, 50)...), api.MaxFilament)
		s, e := flow.Text(d)
		if e != api.OK {
			t.Fatal(d, e)
		}
		if back, n, e := flow.Read(s); e != api.OK || n != 0 || !slices.Equal(back, d) {
			t.Fatal(d, back, n, e)
		}
	}
}

// wrongTold are draws with each error that Text has, at its bounds, and with several of them.
func wrongTold() []struct {
	name string
	d    []api.Draw
	e    api.Errno
} {
	good := draw(5, "b", 1)
	return []struct {
		name string
		d    []api.Draw
		e    api.Errno
	}{
		{"too many", slices.Repeat([]api.Draw{good}, api.MaxBeads+1), api.ErrLarge},
		{"too many that are wrong", slices.Repeat([]api.Draw{draw(-1, "x", 0)}, api.MaxBeads+1), api.ErrLarge},
		{"before all moments", []api.Draw{draw(-1, "b", 1)}, api.ErrArg},
		{"after all moments", []api.Draw{good, draw(api.End, "b", 1)}, api.ErrArg},
		{"no moment, no key", []api.Draw{draw(-1, "B", 1)}, api.ErrArg},
		{"not a key", []api.Draw{good, draw(5, "B", 1)}, api.ErrName},
		{"a key that is too long", []api.Draw{draw(5, strings.Repeat("a", api.MaxName+1), 1)}, api.ErrName},
		{"bytes of no key", []api.Draw{draw(5, "a\x00\t\xff", 1)}, api.ErrName},
		{"not a key, nothing drawn", []api.Draw{draw(5, "1", 0)}, api.ErrName},
		{"nothing drawn", []api.Draw{draw(5, "b", 0)}, api.ErrArg},
		{"too much drawn", []api.Draw{draw(5, "b", api.MaxFilament+1)}, api.ErrArg},
		{"too much put back", []api.Draw{good, draw(5, "b", -api.MaxFilament-1)}, api.ErrArg},
		{"nothing drawn, before a wrong one", []api.Draw{draw(5, "b", 0), draw(5, "B", 1)}, api.ErrArg},
		{"not a key, before a wrong one", []api.Draw{draw(5, "B", 1), draw(-1, "b", 1)}, api.ErrName},
	}
}

// P7.5: the errors of Text, and the same ones of Read.
func TestWrongText(t *testing.T) {
	for _, c := range wrongTold() {
		fails(t, c.name, c.e, text(c.d))
		var lines strings.Builder
		for _, one := range c.d {
			lines.WriteString(decimal(one.At) + " " + one.Spool + " " + decimal(one.Long) + "\n")
		}
		fails(t, c.name, c.e, read(lines.String()))
	}
	for _, at := range []int{least, greatest} {
		fails(t, at, api.ErrArg, text([]api.Draw{draw(at, "b", 1)}), text([]api.Draw{draw(1, "b", at)}))
	}
	for _, name := range []string{"", "a b", "a\n", " "} {
		fails(t, name, api.ErrName, text([]api.Draw{draw(1, name, 1)}))
	}
}

func decimal(n int) string { return integer(n).String() }

// P7.5: draws can be told in any order, and of spools that are not known; there is no error for that.
func TestTextOrder(t *testing.T) {
	d := []api.Draw{draw(5, "b", 1), draw(4, "a", 1), draw(4, "a", 1)}
	if s, e := flow.Text(d); e != api.OK || s != "5 b 1\n4 a 1\n4 a 1\n" {
		t.Errorf("%q %v", s, e)
	}
	if back, n, e := flow.Read("5 b 1\n4 a 1\n4 a 1\n"); e != api.OK || n != 0 || !slices.Equal(back, d) {
		t.Error(back, n, e)
	}
}

// P7.5: a text has at most MaxText bytes, after all else.
func TestLongText(t *testing.T) {
	forty := slices.Repeat([]api.Draw{draw(10, strings.Repeat("a", 34), 1)}, api.MaxBeads)
	s, e := flow.Text(forty)
	if e != api.OK || len(s) != api.MaxText {
		t.Fatal(len(s), e)
	}
	if d, n, e := flow.Read(s); e != api.OK || n != 0 || !slices.Equal(d, forty) {
		t.Error(len(d), n, e)
	}
	longer := slices.Clone(forty)
	longer[7].Long = 10
	fails(t, "too long", api.ErrLarge, text(longer))
	longer[4_999].Spool = "B"
	fails(t, "too long, and wrong", api.ErrName, text(longer))
	longer[3].Long = 0
	fails(t, "too long, and wrong", api.ErrArg, text(longer))
	fails(t, "too long to be read", api.ErrLarge, read(s+"\n"), read(s+"10 a 1\n"), read(strings.Repeat("x", api.MaxText+1)), read(strings.Repeat("\n", api.MaxText+1)))
}

// P7.5, Z9, Z10: the first line that does not have the form.
func TestReadSyntax(t *testing.T) {
	for _, line := range []string{
		"", " ", "  ", "3", "3 a", "3 a ", "3 a 5 ", " 3 a 5", "3  a 5", "3 a  5", "3  5", " a 5", "3 a 5 6", "3 a b 5", "3\ta\t5", "3 a 5\r", "a 3 5", "a a 5", "3 a a",
		"03 a 5", "-0 a 5", "3 a -0", "3 a 05", "+3 a 5", "3 a +5", "3 a -", "- a 5", "3 a --5", "3.0 a 5", "3 a 5.", "3 a 1_0", "0x3 a 5", "٣ a 5",
		"1000000000000000 a 5", "3 a 1000000000000000", "3 a -1000000000000000", "0000000000000003 a 5",
	} {
		for at, s := range []string{line + "\n3 a 5\n", "3 a 5\n" + line + "\n3 a 5\n", "3 a 5\n9 x 9\n" + line + "\nbad\n"} {
			if d, n, e := flow.Read(s); e != api.ErrSyntax || n != at || len(d) > 0 {
				t.Errorf("%q %v %v %v", s, d, n, e)
			}
		}
		if d, n, e := flow.Read("3 a 5\n" + line); line != "" && (e != api.ErrSyntax || n != 1 || len(d) > 0) {
			t.Errorf("%q %v %v %v", line, d, n, e)
		}
	}
	for s, at := range map[string]int{
		"3 a 5":                     0,
		"3 a 5\n3 a":                1,
		"3 a 5\n3 a 5":              1,
		"3 a 5\n\n":                 1,
		"3 A 0\nbad\n":              1,
		"-5 a 1\n3 a 5\n3 a 5\nbad": 3,
		strings.Repeat("3 a 5\n", api.MaxBeads+1) + "bad\n": api.MaxBeads + 1,
		strings.Repeat("x", api.MaxText):                    0,
	} {
		if d, n, e := flow.Read(s); e != api.ErrSyntax || n != at || len(d) > 0 {
			t.Errorf("%.100q %v %v %v", s, d, n, e)
		}
	}
}

// P7.5: what has the form can still be wrong; then the line is 0.
func TestReadErrors(t *testing.T) {
	for s, e := range map[string]api.Errno{
		"":                                      api.OK,
		"3 a 5\n":                               api.OK,
		"999999999999999 a 5\n":                 api.ErrArg,
		"-999999999999999 a 5\n":                api.ErrArg,
		"3 a 999999999999999\n":                 api.ErrArg,
		"3 a -999999999999999\n":                api.ErrArg,
		"3 a 5\n3 a 0\n":                        api.ErrArg,
		"3 a 5\n3 7 5\n":                        api.ErrName,
		"3 ä 5\n":                               api.ErrName,
		"3 a\r 5\n":                             api.ErrName,
		"3 -5 5\n":                              api.ErrName,
		strings.Repeat("3 a 5\n", api.MaxBeads): api.OK,
		strings.Repeat("3 a 5\n", api.MaxBeads+1):         api.ErrLarge,
		strings.Repeat("-3 A 0\n", api.MaxBeads+1):        api.ErrLarge,
		strings.Repeat("3 a 5\n", api.MaxText/6) + "3\n":  api.ErrSyntax,
		strings.Repeat("3 a 5\n", api.MaxText/6) + "33\n": api.ErrLarge,
	} {
		d, n, got := flow.Read(s)
		if e == api.ErrSyntax && n == api.MaxText/6 {
			n = 0
		}
		if got != e || n != 0 || e != api.OK && len(d) > 0 {
			t.Errorf("%.100q %v %v %v", s, len(d), n, got)
		}
	}
}
