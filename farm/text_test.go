package farm_test

import (
	"math/rand"
	"slices"
	"strconv"
	"strings"
	"testing"

	"beadlayer/api"
	"beadlayer/farm"
)

// P9.5: a line for each event, and back.
func TestText(t *testing.T) {
	long := strings.Repeat("z", api.MaxName)
	for _, c := range []struct {
		l    []api.Event
		want string
	}{
		{nil, ""},
		{events(start(0, "a", "j0")), "0 a start j0\n"},
		{events(done(7, "a")), "7 a done\n"},
		{events(fail(7, "b-1")), "7 b-1 fail\n"},
		{events(change(7, "a", "q_")), "7 a change q_\n"},
		{events(stop(7, "a")), "7 a stop\n"},
		{events(serve(api.End-1, "a")), "345686399999 a serve\n"},
		{events(start(10, "start", "done"), change(10, "x", "change"), stop(12, "serve"), start(12, long, long)), "10 start start done\n10 x change change\n12 serve stop\n12 " + long + " start " + long + "\n"},
	} {
		if s, e := farm.Text(c.l); e != api.OK || s != c.want {
			t.Errorf("%v %q %v", c.l, s, e)
		}
		if l, n, e := farm.Read(c.want); e != api.OK || n != 0 || !slices.Equal(l, c.l) {
			t.Errorf("%q %v %v %v", c.want, l, n, e)
		}
	}
	r := rand.New(rand.NewSource(7))
	for range 300 {
		l := randomEvents(r, printers("m", "n", "o"))
		s, e := farm.Text(l)
		if e != api.OK {
			t.Fatal(l, e)
		}
		if back, n, e := farm.Read(s); e != api.OK || n != 0 || !slices.Equal(back, l) {
			t.Fatal(l, back, n, e)
		}
	}
}

// P9.5: events are told without printers: there is no error for one that is not known, nor for an event that is refused.
func TestTextWithoutPrinters(t *testing.T) {
	l := events(done(4, "z"), done(4, "a"), serve(4, "q"))
	if s, e := farm.Text(l); e != api.OK || s != "4 z done\n4 a done\n4 q serve\n" {
		t.Errorf("%q %v", s, e)
	}
}

// wrongTold are events with each error of Text, and with several of them.
func wrongTold() []struct {
	name string
	l    []api.Event
	e    api.Errno
} {
	good := stop(5, "b")
	return []struct {
		name string
		l    []api.Event
		e    api.Errno
	}{
		{"too many", slices.Repeat(events(good), api.MaxEvents+1), api.ErrLarge},
		{"too many that are wrong", slices.Repeat(events(start(-1, "B", "J")), api.MaxEvents+1), api.ErrLarge},
		{"before all moments", events(stop(-1, "b")), api.ErrArg},
		{"after all moments", events(good, stop(api.End, "b")), api.ErrArg},
		{"no moment, no key", events(stop(-1, "B")), api.ErrArg},
		{"a printer that is no key", events(good, stop(5, "B")), api.ErrName},
		{"a printer that is too long", events(stop(5, strings.Repeat("a", api.MaxName+1))), api.ErrName},
		{"a printer of bytes of no key", events(stop(5, "a\x00\t\xff")), api.ErrName},
		{"a printer that is no key, and too early", events(good, stop(4, "B")), api.ErrName},
		{"a job that is no key", events(start(5, "b", "J")), api.ErrName},
		{"a job that is too long", events(good, start(5, "b", strings.Repeat("a", api.MaxName+1))), api.ErrName},
		{"a material that is no key", events(change(5, "b", "-")), api.ErrName},
		{"a material that is no key, and too early", events(good, change(4, "b", "1")), api.ErrName},
		{"too early", events(good, done(4, "b")), api.ErrOrder},
		{"too early with another printer", events(good, start(0, "a", "j")), api.ErrOrder},
		{"too early, before a wrong one", events(good, stop(4, "b"), stop(-1, "B")), api.ErrOrder},
		{"a wrong one, before one too early", events(good, stop(5, "B"), stop(4, "b")), api.ErrName},
		{"earlier than the one before", events(stop(3, "b"), stop(5, "b"), stop(4, "b")), api.ErrOrder},
	}
}

// lineOf is the text of an event, which can be wrong.
func lineOf(x api.Event) string {
	words := []string{strconv.Itoa(x.At), x.Printer, []string{"start", "done", "fail", "change", "stop", "serve"}[x.Kind-1], x.Job + x.Material}
	return strings.TrimSuffix(strings.Join(words, " "), " ") + "\n"
}

// P9.5: the errors of Text, and the same ones of Read.
func TestWrongText(t *testing.T) {
	for _, c := range wrongTold() {
		fails(t, c.name, c.e, text(c.l))
		var lines strings.Builder
		for _, x := range c.l {
			lines.WriteString(lineOf(x))
		}
		fails(t, c.name, c.e, read(lines.String()))
	}
	for _, at := range []int{least, greatest} {
		fails(t, at, api.ErrArg, text(events(stop(at, "b"))), text(events(api.Event{At: at, Kind: at})))
	}
	for _, s := range notKeys() {
		fails(t, s, api.ErrName, text(events(stop(5, s))), text(events(start(5, "b", s))), text(events(change(5, "b", s))))
	}
}

// P9.5: what only Text can be given: no kind, then fields that are not used, then what is no key.
func TestWrongFields(t *testing.T) {
	for _, kind := range []int{least, -1, 0, api.EventServe + 1, greatest} {
		fails(t, kind, api.ErrKind, text(events(api.Event{At: 5, Kind: kind, Printer: "b"})), text(events(api.Event{Kind: kind, Job: "j", Material: "m"})))
		fails(t, kind, api.ErrArg, text(events(api.Event{At: -1, Kind: kind, Printer: "b"})))
		fails(t, kind, api.ErrKind, text(events(stop(5, "b"), api.Event{At: 4, Kind: kind, Printer: "b"})))
	}
	for _, x := range events(
		api.Event{At: 5, Kind: api.EventStop, Printer: "b", Job: "j"},
		api.Event{At: 5, Kind: api.EventStart, Printer: "b", Job: "j", Material: "m"},
		api.Event{At: 5, Kind: api.EventStart, Printer: "B", Job: "J", Material: "m"},
		api.Event{At: 5, Kind: api.EventChange, Printer: "", Job: "j"},
		api.Event{At: 4, Kind: api.EventDone, Printer: "b", Material: " "},
	) {
		fails(t, x, api.ErrForm, text(events(x)), text(events(stop(5, "b"), x)))
	}
}

// P9.5: a text has at most MaxText bytes, after all else.
func TestLongText(t *testing.T) {
	forty := slices.Repeat(events(start(100, strings.Repeat("a", 20), strings.Repeat("b", 8))), api.MaxEvents)
	s, e := farm.Text(forty)
	if e != api.OK || len(s) != api.MaxText {
		t.Fatal(len(s), e)
	}
	if l, n, e := farm.Read(s); e != api.OK || n != 0 || !slices.Equal(l, forty) {
		t.Error(len(l), n, e)
	}
	longer := slices.Clone(forty)
	longer[7].Job += "b"
	fails(t, "too long", api.ErrLarge, text(longer))
	longer[4_999].At = 99
	fails(t, "too long, and not in order", api.ErrOrder, text(longer))
	longer[4_000].Printer = "B"
	fails(t, "too long, and no key", api.ErrName, text(longer))
	longer[3].Kind = 0
	fails(t, "too long, and no kind", api.ErrKind, text(longer))
	fails(t, "too long to be read", api.ErrLarge, read(s+"\n"), read(s+"100 a stop\n"), read(strings.Repeat("x", api.MaxText+1)), read(strings.Repeat("\n", api.MaxText+1)))
}

// P9.5, Z9, Z10: the first line that does not have the form.
func TestReadSyntax(t *testing.T) {
	for _, line := range []string{
		"", " ", "  ", "3", "3 a", "3 a ", "3 a stop ", " 3 a stop", "3  a stop", "3 a  stop", "3  stop", " a stop", "a 3 stop", "stop a 3", "3 stop", "stop", "3 stop a", "a a stop",
		"3 a stop now", "3 a done j", "3 a fail j", "3 a serve m", "3 a stop 5", "3 a start", "3 a start ", "3 a start  j", "3 a start j ", "3 a start j k", "3 a change", "3 a change ", "3 a change m n", "3 a change  m",
		"3 a begin j", "3 a Start j", "3 a star j", "3 a starts j", "3 a STOP", "3 a sto", "3 a stopp", "3 a stop\r", "3\ta\tstop", "3 a\tstop", "3 a stop\t", "3 a \x00", "3 a 5", "3 a 1 j", "3 a start\tj",
		"03 a stop", "-0 a stop", "00 a stop", "+3 a stop", "- a stop", "--3 a stop", "3.0 a stop", "3, a stop", "1_0 a stop", "0x3 a stop", "٣ a stop",
		"1000000000000000 a stop", "-1000000000000000 a stop", "0000000000000003 a stop",
	} {
		for at, s := range []string{line + "\n3 a stop\n", "3 a stop\n" + line + "\n3 a stop\n", "3 a stop\n0 A start J\n" + line + "\nbad\n"} {
			if l, n, e := farm.Read(s); e != api.ErrSyntax || n != at || len(l) > 0 {
				t.Errorf("%q %v %v %v", s, l, n, e)
			}
		}
		if l, n, e := farm.Read("3 a stop\n" + line); line != "" && (e != api.ErrSyntax || n != 1 || len(l) > 0) {
			t.Errorf("%q %v %v %v", line, l, n, e)
		}
	}
	for s, at := range map[string]int{
		"3 a stop":                         0,
		"3 a start j":                      0,
		"3 a stop\n3 a":                    1,
		"3 a stop\n3 a stop":               1,
		"3 a stop\n\n":                     1,
		"3 A stop\nbad\n":                  1,
		"-5 a stop\n3 a stop\n0 a done\nx": 3,
		strings.Repeat("3 a stop\n", api.MaxEvents+1) + "bad\n": api.MaxEvents + 1,
		strings.Repeat("x", api.MaxText):                        0,
	} {
		if l, n, e := farm.Read(s); e != api.ErrSyntax || n != at || len(l) > 0 {
			t.Errorf("%.100q %v %v %v", s, l, n, e)
		}
	}
}

// P9.5: what has the form can still be wrong; then the line is 0.
func TestReadErrors(t *testing.T) {
	for s, e := range map[string]api.Errno{
		"":                                     api.OK,
		"3 a stop\n":                           api.OK,
		"3 a stop\n3 a stop\n":                 api.OK,
		"999999999999999 a stop\n":             api.ErrArg,
		"-999999999999999 a stop\n":            api.ErrArg,
		"345686399999 a stop\n":                api.OK,
		"345686400000 a stop\n":                api.ErrArg,
		"-1 A start J\n":                       api.ErrArg,
		"3 a stop\n3 7 stop\n":                 api.ErrName,
		"3 ä stop\n":                           api.ErrName,
		"3 a\r stop\n":                         api.ErrName,
		"3 -5 stop\n":                          api.ErrName,
		"3 a start 5\n":                        api.ErrName,
		"3 a start j\r\n":                      api.ErrName,
		"3 a change \xff\n":                    api.ErrName,
		"3 a start j\tk\n":                     api.ErrName,
		"3 a stop\n2 a serve\n":                api.ErrOrder,
		"3 a stop\n2 A serve\n":                api.ErrName,
		"3 a stop\n2 a serve\n-1 a stop\n":     api.ErrOrder,
		"3 stop stop\n3 start start start\n":   api.OK,
		strings.Repeat("3 a stop\n", 5_000):    api.OK,
		strings.Repeat("3 a stop\n", 5_001):    api.ErrLarge,
		strings.Repeat("-3 A stop\n", 5_001):   api.ErrLarge,
		strings.Repeat("3 a stop\n", 22_223):   api.ErrLarge,
		strings.Repeat("-3 A start\n", 20_000): api.ErrLarge,
	} {
		l, n, got := farm.Read(s)
		if got != e || n != 0 || e != api.OK && len(l) > 0 {
			t.Errorf("%.100q %v %v %v", s, len(l), n, got)
		}
	}
}
