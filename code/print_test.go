package code_test

import (
	"math/rand"
	"reflect"
	"slices"
	"testing"

	"beadlayer/api"
	"beadlayer/code"
	"beadlayer/path"
)

func samePaths(a, b []api.Path) bool {
	return slices.EqualFunc(a, b, func(p, q api.Path) bool { return p.Closed == q.Closed && slices.Equal(p.Points, q.Points) })
}

// P8.5: a path for each longest row of what is printed, with its height and its flow.
func TestPrinted(t *testing.T) {
	for _, c := range []struct {
		s              []api.Step
		p              []api.Path
		heights, flows []int
	}{
		{nil, nil, nil, nil},
		{sample(), []api.Path{open(10, 0, 15, 0)}, list(0), list(7)},
		{steps(move(1, 1), prints(2, 2, 0), layer(3), speed(1)), nil, nil, nil},
		{steps(prints(1, 0, 2), prints(1, 5, 3)), []api.Path{open(0, 0, 1, 0, 1, 5)}, list(0), list(5)},
		{steps(prints(1, 0, 2), prints(0, 0, 3)), []api.Path{open(0, 0, 1, 0, 0, 0)}, list(0), list(5)},
		// equal places
		{steps(prints(0, 0, 2)), []api.Path{open(0, 0)}, list(0), list(2)},
		{steps(prints(0, 0, 2), prints(1, 0, 2), prints(1, 0, 2), prints(0, 0, 2), prints(0, 0, 1)), []api.Path{open(0, 0, 1, 0, 0, 0)}, list(0), list(9)},
		{steps(move(4, 4), prints(4, 4, 2), prints(4, 4, 1), prints(4, 5, 1)), []api.Path{open(4, 4, 4, 5)}, list(0), list(4)},
		// what ends a path, and what does not
		{steps(prints(1, 0, 2), speed(1), wait(1), heat(1), tool(1), absolute(), relative(), prints(1, 0, 3)), []api.Path{open(0, 0, 1, 0, 2, 0)}, list(0), list(5)},
		{steps(prints(1, 0, 2), move(1, 0), prints(2, 0, 3)), []api.Path{open(0, 0, 1, 0), open(1, 0, 2, 0)}, list(0, 0), list(2, 3)},
		{steps(prints(1, 0, 2), layer(0), prints(2, 0, 3)), []api.Path{open(0, 0, 1, 0), open(1, 0, 2, 0)}, list(0, 0), list(2, 3)},
		{steps(prints(1, 0, 2), prints(1, 0, 0), prints(2, 0, 3)), []api.Path{open(0, 0, 1, 0), open(1, 0, 2, 0)}, list(0, 0), list(2, 3)},
		{steps(prints(1, 0, 2), prints(5, 0, 0), prints(2, 0, 3)), []api.Path{open(0, 0, 1, 0), open(5, 0, 2, 0)}, list(0, 0), list(2, 3)},
		{steps(prints(1, 0, 2), wait(1), move(7, 0), wait(1), prints(2, 0, 3)), []api.Path{open(0, 0, 1, 0), open(7, 0, 2, 0)}, list(0, 0), list(2, 3)},
		{steps(wait(1), prints(1, 0, 2), move(1, 0), move(1, 0), wait(1)), []api.Path{open(0, 0, 1, 0)}, list(0), list(2)},
		// heights
		{steps(layer(3), prints(1, 0, 2), layer(8), prints(0, 0, 3), layer(1)), []api.Path{open(0, 0, 1, 0), open(1, 0, 0, 0)}, list(3, 8), list(2, 3)},
		{steps(layer(-3), relative(), prints(1, 0, 2), layer(-8), prints(1, 0, 3)), []api.Path{open(0, 0, 1, 0), open(1, 0, 2, 0)}, list(-3, -11), list(2, 3)},
		{steps(prints(far, -far, api.MaxFlow), prints(0, 0, api.MaxFlow)), []api.Path{open(0, 0, far, -far, 0, 0)}, list(0), list(2 * api.MaxFlow)},
	} {
		if p, z, n, e := code.Printed(c.s); e != api.OK || !samePaths(p, c.p) || !slices.Equal(z, c.heights) || !slices.Equal(n, c.flows) {
			t.Error(c.s, p, z, n, e)
		}
	}
}

// P8.5: Printed of random programs: a path for each piece between what ends one.
func TestRandomPrinted(t *testing.T) {
	r := rand.New(rand.NewSource(7))
	for range 3000 {
		s := randomSteps(r, 30)
		var want []api.Path
		var heights, flows []int
		m := states(s)
		from := 0
		for i := range len(s) + 1 {
			if i < len(s) && (s[i].Kind < api.StepMove || s[i].Kind > api.StepLayer || s[i].Kind == api.StepPrint && s[i].Flow > 0) {
				continue
			}
			if n := m[i].Flow - m[from].Flow; n > 0 {
				one := api.Path{}
				for _, at := range m[from : i+1] {
					one.Points = append(one.Points, api.Point{X: at.X, Y: at.Y})
				}
				one.Points = slices.Compact(one.Points)
				want, heights, flows = append(want, one), append(heights, m[i].Z), append(flows, n)
			}
			from = i + 1
		}
		if p, z, n, e := code.Printed(s); e != api.OK || !samePaths(p, want) || !slices.Equal(z, heights) || !slices.Equal(n, flows) {
			t.Fatal(s, p, z, n, e, want, heights, flows)
		}
	}
}

// P8.5: what is printed has to be paths.
func TestWrongPrinted(t *testing.T) {
	zigzag := slices.Repeat(steps(prints(1, 0, 1), prints(0, 0, 1)), api.MaxRing)
	hops := slices.Repeat(steps(prints(1, 0, 1), move(0, 0)), api.MaxPaths)
	for _, c := range []struct {
		name string
		s    []api.Step
		e    api.Errno
	}{
		{"most points", zigzag[:api.MaxRing-1], api.OK},
		{"too many points", zigzag[:api.MaxRing], api.ErrLarge},
		{"equal points", slices.Repeat(steps(prints(1, 0, 1)), api.MaxSteps), api.OK},
		{"most paths", hops, api.OK},
		{"too many paths", append(slices.Clone(hops), prints(1, 0, 1)), api.ErrLarge},
		{"too many paths, too far", append(steps(prints(far+1, 0, 1), move(0, 0)), hops...), api.ErrLarge},
		{"too far to X", steps(prints(far+1, 0, 1)), api.ErrArg},
		{"too far to Y", steps(prints(0, -far-1, 1)), api.ErrArg},
		{"from too far", steps(move(-far-1, 0), prints(0, 0, 1)), api.ErrArg},
		{"not printed too far", steps(move(far+1, 0), prints(0, far+1, 0), move(0, 0), prints(far, far, 1)), api.OK},
		{"too far, then too many", append(steps(prints(far+1, 0, 1), move(0, 0)), zigzag...), api.ErrArg},
		{"too many, then too far", append(slices.Clone(zigzag), prints(far+1, 0, 1)), api.ErrLarge},
		{"not valid, too far", steps(prints(far+1, 0, 1), speed(0)), api.ErrArg},
		{"no kind, too many", append(slices.Clone(zigzag), api.Step{}), api.ErrKind},
	} {
		if c.e != api.OK {
			fails(t, c.name, c.e, printed(c.s))
		} else if p, _, _, e := code.Printed(c.s); e != api.OK || path.CheckPaths(p) != api.OK {
			t.Error(c.name, e)
		}
	}
}

// P8.5: programs that print paths.
func TestMade(t *testing.T) {
	three := []api.Path{open(0, 0, 15, 0, 15, 10), closed(1, 1, 5, 1, 5, 4), open(7, 7)}
	for _, c := range []struct {
		p       []api.Path
		o       []api.Visit
		z, flow int
		want    []api.Step
	}{
		{nil, nil, 0, 0, steps(layer(0))},
		{nil, nil, api.MaxZ, 100_000, steps(layer(api.MaxZ))},
		{three[:1], inOrder(1), 200, 100, steps(layer(200), move(0, 0), prints(15, 0, 1), prints(15, 10, 1))},
		{three[:1], []api.Visit{{Back: true}}, 1, 100, steps(layer(1), move(15, 10), prints(15, 0, 1), prints(0, 0, 1))},
		{three[:1], inOrder(1), 1, 0, steps(layer(1), move(0, 0), prints(15, 0, 0), prints(15, 10, 0))},
		{three[:1], inOrder(1), 1, 1_000, steps(layer(1), move(0, 0), prints(15, 0, 15), prints(15, 10, 10))},
		{three[1:2], []api.Visit{{Start: 2}}, 5, 300, steps(layer(5), move(5, 4), prints(1, 1, 1), prints(5, 1, 1), prints(5, 4, 1))},
		{three[1:2], inOrder(1), 5, 300, steps(layer(5), move(1, 1), prints(5, 1, 1), prints(5, 4, 1), prints(1, 1, 1))},
		{three[2:], inOrder(1), 5, 100_000, steps(layer(5), move(7, 7))},
		{
			three, []api.Visit{{Path: 2}, {Path: 1}, {Path: 0, Back: true}}, 9, 100,
			steps(layer(9), move(7, 7), move(1, 1), prints(5, 1, 0), prints(5, 4, 0), prints(1, 1, 1), move(15, 10), prints(15, 0, 1), prints(0, 0, 1)),
		},
		// equal points, and both directions
		{[]api.Path{open(1, 2, 1, 2, 4, -2, 4, -2)}, inOrder(1), 0, 500, steps(layer(0), move(1, 2), prints(1, 2, 0), prints(4, -2, 2), prints(4, -2, 0))},
		// what is rounded off is carried on, also to the next path
		{[]api.Path{open(0, 0, 1, 0, 2, 0, 3, 0, 4, 0), open(9, 0, 9, 1, 9, 2)}, inOrder(2), 0, 400, steps(layer(0), move(0, 0), prints(1, 0, 0), prints(2, 0, 0), prints(3, 0, 1), prints(4, 0, 0), move(9, 0), prints(9, 1, 1), prints(9, 2, 0))},
		{[]api.Path{open(far, far, -far, 0, far, -far)}, inOrder(1), 0, 100_000, steps(layer(0), move(far, far), prints(-far, 0, 20_000_000), prints(far, -far, 20_000_000))},
	} {
		if l, e := code.Made(c.p, c.o, c.z, c.flow); e != api.OK || !slices.Equal(l, c.want) {
			t.Error(c.p, c.o, c.z, c.flow, l, e)
		}
	}
}

// P8.5: the sums of all flows are the rounded down sums of flow times the distances; what is made prints the paths.
func TestRandomMade(t *testing.T) {
	r := rand.New(rand.NewSource(8))
	for range 2000 {
		p, o := randomPaths(r)
		z, flow := r.Intn(api.MaxZ+1), r.Intn([]int{10, 1_000, 100_001}[r.Intn(3)])
		s, e := code.Made(p, o, z, flow)
		if e != api.OK || s[0] != layer(z) {
			t.Fatal(p, o, z, flow, s, e)
		}
		rest, way, sum := s[1:], 0, 0
		for _, v := range o {
			points, _ := path.Points(p, v)
			for i, at := range points {
				step := move(at.X, at.Y)
				if i > 0 {
					way += max(apart(at.X, points[i-1].X), apart(at.Y, points[i-1].Y))
					step = prints(at.X, at.Y, rest[i].Flow)
				}
				sum += rest[i].Flow
				if rest[i] != step || sum != flow*way/1_000 {
					t.Fatal(p, o, z, flow, s)
				}
			}
			rest = rest[len(points):]
		}
		if len(rest) > 0 {
			t.Fatal(p, o, s)
		}
	}
}

// What follows: what is made from paths prints them.
func TestMadeAndPrinted(t *testing.T) {
	r := rand.New(rand.NewSource(9))
	for range 2000 {
		p, o := randomPaths(r)
		z, flow := r.Intn(api.MaxZ+1), 1_000+r.Intn(99_001)
		s, _ := code.Made(p, o, z, flow)
		var want []api.Path
		for _, v := range o {
			points, _ := path.Points(p, v)
			if points = slices.Compact(points); len(points) > 1 {
				want = append(want, api.Path{Points: points})
			}
		}
		got, heights, flows, e := code.Printed(s)
		if e != api.OK || !samePaths(got, want) || !slices.Equal(heights, slices.Repeat(list(z), len(want))) {
			t.Fatal(p, o, s, got, heights, e)
		}
		_, length, _ := path.Long(want)
		sum := 0
		for _, n := range flows {
			sum += n
		}
		if sum != flow*length/1_000 {
			t.Fatal(p, o, flow, flows)
		}
	}
}

// P8.5: the errors of Made: those of the order, z and flow, and too many steps.
func TestWrongMade(t *testing.T) {
	one := []api.Path{open(0, 0, 15, 0)}
	for _, c := range []struct {
		name string
		p    []api.Path
		o    []api.Visit
		e    api.Errno
	}{
		{"no points", []api.Path{{}}, inOrder(1), api.ErrNone},
		{"too many paths", slices.Repeat(one, api.MaxPaths+1), nil, api.ErrLarge},
		{"a closed line", []api.Path{closed(0, 0, 1, 1)}, inOrder(1), api.ErrForm},
		{"too far", []api.Path{open(far+1, 0)}, inOrder(1), api.ErrArg},
		{"no visit", one, nil, api.ErrForm},
		{"a visit of nothing", nil, inOrder(1), api.ErrForm},
		{"no such path", one, []api.Visit{{Path: 1}}, api.ErrArg},
		{"twice", slices.Repeat(one, 2), []api.Visit{{}, {}}, api.ErrTwice},
		{"a start", one, []api.Visit{{Start: 1}}, api.ErrForm},
	} {
		fails(t, c.name, c.e, made(c.p, c.o, 0, 0), made(c.p, c.o, -1, 0), made(c.p, c.o, 0, -1))
	}
	many := slices.Repeat([]api.Path{long(api.MaxRing)}, api.MaxSteps/api.MaxRing)
	for _, n := range list(least, -1, greatest) {
		fails(t, n, api.ErrArg, made(nil, nil, n, 0), made(nil, nil, 0, n), made(one, inOrder(1), n, 5), made(one, inOrder(1), 5, n), made(many, inOrder(len(many)), n, n))
	}
	fails(t, "too high", api.ErrArg, made(one, inOrder(1), api.MaxZ+1, 0), made(many, inOrder(len(many)), api.MaxZ+1, 0))
	fails(t, "too much", api.ErrArg, made(one, inOrder(1), 0, 100_001), made(many, inOrder(len(many)), 0, 100_001))
	fails(t, "too many steps", api.ErrLarge, made(many, inOrder(len(many)), 0, 100_000))
	most := slices.Clone(many)
	most[3] = long(api.MaxRing - 1)
	if s, e := code.Made(most, inOrder(len(most)), api.MaxZ, 100_000); e != api.OK || len(s) != api.MaxSteps {
		t.Error(len(s), e)
	}
	all := slices.Repeat([]api.Path{long(api.MaxRing)}, api.MaxPaths)
	fails(t, "the most points", api.ErrLarge, made(all, inOrder(len(all)), 0, 100_000))
}

// long is a path with so many points.
func long(count int) api.Path {
	var p api.Path
	for i := range count {
		p.Points = append(p.Points, api.Point{X: far * (i%2*2 - 1), Y: i})
	}
	return p
}

// Z2: results share no memory with each other.
func TestPrintedMemory(t *testing.T) {
	p, _, _, _ := code.Printed(steps(prints(1, 0, 2), move(1, 0), prints(2, 0, 3), move(3, 3), prints(2, 0, 3)))
	want := []api.Path{open(0, 0, 1, 0), open(1, 0, 2, 0), open(3, 3, 2, 0)}
	for i := range p {
		p[i].Points = append(p[i].Points, api.Point{X: 99})[:2]
	}
	if !reflect.DeepEqual(p, want) {
		t.Error(p)
	}
}
