package code_test

import (
	"math/rand"
	"slices"
	"strings"
	"testing"

	"beadlayer/api"
	"beadlayer/code"
)

const sampleText = "speed 100\nrelative\nmove 10 0\nprint 5 0 7\nlayer 2\n"

// P8.6: a line for each step, and back.
func TestText(t *testing.T) {
	for _, c := range []struct {
		s    []api.Step
		want string
	}{
		{nil, ""},
		{sample(), sampleText},
		{steps(absolute()), "absolute\n"},
		{steps(relative()), "relative\n"},
		{steps(move(-farther, farther)), "move -200000 200000\n"},
		{steps(prints(farther, -farther, api.MaxFlow)), "print 200000 -200000 100000000\n"},
		{steps(prints(0, 0, 0), move(0, 0), layer(0)), "print 0 0 0\nmove 0 0\nlayer 0\n"},
		{steps(layer(-api.MaxZ), layer(api.MaxZ)), "layer -1000000\nlayer 1000000\n"},
		{steps(speed(1), speed(api.MaxSpeed)), "speed 1\nspeed 100000\n"},
		{steps(wait(0), wait(api.MaxWait)), "wait 0\nwait 10000000\n"},
		{steps(heat(0), heat(api.MaxHeat)), "heat 0\nheat 500\n"},
		{steps(tool(0), tool(9)), "tool 0\ntool 9\n"},
	} {
		if text, e := code.Text(c.s); e != api.OK || text != c.want {
			t.Errorf("%v %q %v", c.s, text, e)
		}
		if s, n, e := code.Read(c.want); e != api.OK || n != 0 || !slices.Equal(s, c.s) {
			t.Errorf("%q %v %v %v", c.want, s, n, e)
		}
	}
}

// P8.6: what is written is read to an equal value, also if it is as long as it can be.
func TestRandomText(t *testing.T) {
	r := rand.New(rand.NewSource(12))
	all := [][]api.Step{slices.Repeat(steps(prints(-farther, -farther, api.MaxFlow)), api.MaxSteps), slices.Repeat(steps(layer(-api.MaxZ)), api.MaxSteps)}
	for range 300 {
		all = append(all, randomFar(r))
	}
	for _, s := range all {
		text, e := code.Text(s)
		if e != api.OK || len(text) > api.MaxText || strings.Count(text, "\n") != len(s) {
			t.Fatalf("%.100v %v", s, e)
		}
		if back, n, e := code.Read(text); e != api.OK || n != 0 || !slices.Equal(back, s) {
			t.Fatalf("%.100v %v %v", s, n, e)
		}
	}
}

// P8.6, Z9, Z10: the first line that does not have the form.
func TestReadSyntax(t *testing.T) {
	lines := []string{
		" ", "  ", "x", "1", "0", "Absolute", "absolut", "absolutely", "absolute ", " absolute", "absolute 0", "absolute  ", "absolute\r", "absolute\t", "relative 1", "relative\x00", "relativ",
		"absolute relative", "ABSOLUTE", "\ufeffabsolute", "\xff",
		"move", "move ", "move 1", "move 1 ", "move 1 2 ", "move 1  2", "move  1 2", " move 1 2", "move 1 2 3", "move1 2", "move 1\t2", "move\t1 2", "move 1 2\r", "move x 2", "move 1 y", "1 2 move", "move 1,2",
		"print", "print 1 2", "print 1 2 3 4", "print 1 2 3 ", "print 1 2  3", "prints 1 2 3", "print 1 2 x",
		"layer", "layer ", "layer 1 2", "layer x", "layers 1", "layer 1.0", "layer 1e3",
		"speed", "speed x", "speed 1 2", "speed  1", "wait", "wait 1 1", "heat", "heat 1 1", "tool", "tool 1 1", "tool one",
		"speed 01", "speed -0", "speed 00", "speed +1", "speed -", "speed --1", "speed 1_0", "speed 0x1", "speed ١", "move -0 1", "move 1 -0", "move 01 1", "print 1 2 03",
		"speed 1000000000000000", "layer -1000000000000000", "layer 0000000000000001",
	}
	for _, line := range append(lines, "") {
		for at, text := range []string{line + "\nmove 1 2\n", "move 1 2\n" + line + "\nmove 1 2\n", "move 1 2\nspeed 0\n" + line + "\nbad\n"} {
			if s, n, e := code.Read(text); e != api.ErrSyntax || n != at || len(s) > 0 {
				t.Errorf("%q %v %v %v", text, s, n, e)
			}
		}
	}
	for _, line := range append(lines, "absolute", "relative", "move 1 2", "print 1 2 3", "layer 1", "speed 1", "wait 1", "heat 1", "tool 1") {
		if s, n, e := code.Read("move 1 2\n" + line); e != api.ErrSyntax || n != 1 || len(s) > 0 {
			t.Errorf("%q %v %v %v", line, s, n, e)
		}
	}
	for text, at := range map[string]int{
		"tool 1":                  0,
		"tool 1\n\n":              1,
		"speed 0\nwait -1\nbad\n": 2,
		strings.Repeat("wait 1\n", api.MaxSteps+1) + "bad\n": api.MaxSteps + 1,
		strings.Repeat("x", api.MaxText):                     0,
	} {
		if s, n, e := code.Read(text); e != api.ErrSyntax || n != at || len(s) > 0 {
			t.Errorf("%.100q %v %v %v", text, s, n, e)
		}
	}
}

// P8.6: what has the form can still be wrong; then the line is 0.
func TestReadErrors(t *testing.T) {
	for text, e := range map[string]api.Errno{
		"move 200001 0\n":          api.ErrArg,
		"move 0 -200001\n":         api.ErrArg,
		"print 0 0 -1\n":           api.ErrArg,
		"print 0 0 100000001\n":    api.ErrArg,
		"layer 1000001\n":          api.ErrArg,
		"layer -999999999999999\n": api.ErrArg,
		"absolute\nspeed 0\n":      api.ErrArg,
		"speed 100001\n":           api.ErrArg,
		"speed 999999999999999\n":  api.ErrArg,
		"wait -1\n":                api.ErrArg,
		"wait 10000001\n":          api.ErrArg,
		"heat 501\n":               api.ErrArg,
		"heat -1\n":                api.ErrArg,
		"tool 10\n":                api.ErrArg,
		"tool -1\n":                api.ErrArg,
		strings.Repeat("tool 1\n", api.MaxSteps+1):   api.ErrLarge,
		strings.Repeat("tool 10\n", api.MaxSteps+1):  api.ErrLarge,
		strings.Repeat("x", api.MaxText+1):           api.ErrLarge,
		strings.Repeat("\n", api.MaxText+1):          api.ErrLarge,
		strings.Repeat("tool 1\n", api.MaxText/7+1):  api.ErrLarge,
		strings.Repeat("tool 10\n", api.MaxText/8+1): api.ErrLarge,
	} {
		fails(t, text, e, read(text))
	}
}
