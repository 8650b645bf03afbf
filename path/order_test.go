package path_test

import (
	"math/rand"
	"slices"
	"testing"

	"beadlayer/api"
	"beadlayer/path"
)

// ordered is what functions return that find an order.
type ordered struct {
	o []api.Visit
	n int
	e api.Errno
}

func got(o []api.Visit, n int, e api.Errno) ordered { return ordered{o, n, e} }

func (a ordered) same(o []api.Visit, n int) bool {
	return a.e == api.OK && a.n == n && slices.Equal(a.o, o)
}

func (a ordered) fails(e api.Errno) bool {
	return a.e == e && a.n == 0 && len(a.o) == 0
}

// P5.3: the order with the least travel, and of several the first one.
func TestBest(t *testing.T) {
	for _, c := range []struct {
		name  string
		start api.Point
		p     []api.Path
		o     []api.Visit
		n     int
	}{
		{"no paths", point(1, 1), nil, nil, 0},
		{"the document's example", point(0, 0), example(), visits(back(1), to(0)), 2},
		{"from the other side", point(21, 0), example(), visits(back(0), to(1)), 2},
		{"a point is not turned round", point(3, 9), paths(open(3, 4)), visits(to(0)), 5},
		{"equal ends are not turned round", point(0, 0), paths(open(2, 2, 7, 7, 2, 2)), visits(to(0)), 2},
		{"as far from both ends", point(0, 0), paths(open(5, 0, -5, 0)), visits(to(0)), 5},
		{"as far from both ends, the first path first", point(0, 0), paths(open(5, 0), open(-5, 0)), visits(to(0), to(1)), 15},
		{"a far end", point(9, 9), paths(open(0, 0, 5, 5)), visits(back(0)), 4},
		{"the nearest corner", point(5, 1), paths(closed(0, 0, 4, 0, 4, 4)), visits(from(0, 1)), 1},
		{"the first one of several corners", point(2, 2), paths(closed(9, 9, 4, 0, 4, 4, 4, 0)), visits(from(0, 1)), 2},
		{"Start is before the order of what follows", point(0, 0), paths(closed(2, 0, 0, 2, 2, 2), open(4, 2)), visits(from(0, 0), to(1)), 4},
		{"a farther corner on the way", point(0, 0), paths(closed(2, 0, 9, 9, 2, 2), open(9, 10)), visits(from(0, 1), to(1)), 10},
		{"away from the nearest", point(0, 0), paths(open(2, 0), open(-3, 0), open(9, 0)), visits(to(1), to(0), to(2)), 15},
		{"all the same place", point(4, 4), paths(open(4, 4), closed(4, 4, 4, 4, 4, 4), open(4, 4, 4, 4)), visits(to(0), to(1), to(2)), 0},
		{"far away", point(-far, -far), paths(open(far, far, -far, 0), open(far, 0, -far, far)), visits(back(0), to(1)), far + far},
	} {
		if b := got(path.Best(c.start, c.p)); !b.same(c.o, c.n) {
			t.Error(c.name, b)
		}
	}
}

// slowBest tries all orders.
func slowBest(start api.Point, p []api.Path) ([]api.Visit, int) {
	var best, o []api.Visit
	least, met := 0, make([]bool, len(p))
	var try func()
	try = func() {
		if len(o) == len(p) {
			n := travelOf(start, p, o)
			if best == nil || n < least || n == least && compareOrders(o, best) < 0 {
				best, least = slices.Clone(o), n
			}
		}
		for i := range p {
			if met[i] {
				continue
			}
			met[i] = true
			for _, v := range visitsOf(p, i) {
				o = append(o, v)
				try()
				o = o[:len(o)-1]
			}
			met[i] = false
		}
	}
	try()
	return best, least
}

func TestBestRandom(t *testing.T) {
	r := rand.New(rand.NewSource(2))
	for i := range 3000 {
		n := 1 + i%4
		if i%500 == 0 {
			n = 5
		}
		p, start := randomPaths(r, n, 2), randomPoint(r)
		o, travel := slowBest(start, p)
		if b := got(path.Best(start, p)); !b.same(o, travel) {
			t.Fatal(start, p, b, o, travel)
		}
	}
	for range 3 {
		var p []api.Path
		for range api.MaxExact {
			p = append(p, api.Path{Points: []api.Point{randomPoint(r), randomPoint(r)}})
		}
		o, travel := slowBest(point(0, 0), p)
		if b := got(path.Best(point(0, 0), p)); !b.same(o, travel) {
			t.Fatal(p, b, o, travel)
		}
	}
}

// P5.3: of so many paths, with more points, no order has less travel than the best one.
func TestBestIsLeast(t *testing.T) {
	r := rand.New(rand.NewSource(3))
	for range 300 {
		p, start := randomPaths(r, api.MaxExact, 8), randomPoint(r)
		b := got(path.Best(start, p))
		if n, e := path.Travel(start, p, b.o); b.e != api.OK || e != api.OK || n != b.n {
			t.Fatal(start, p, b, n, e)
		}
		for range 50 {
			o := randomOrder(r, p)
			n, e := path.Travel(start, p, o)
			improved := got(path.Improved(start, p, o))
			if e != api.OK || n < b.n || improved.n < b.n || improved.n == b.n && compareOrders(improved.o, b.o) < 0 {
				t.Fatal(start, p, b, o, n, improved)
			}
		}
		if near := got(path.Nearest(start, p)); near.n < b.n || near.n == b.n && compareOrders(near.o, b.o) < 0 {
			t.Fatal(start, p, b, near)
		}
		if begun := got(path.Begun(start, p, r.Perm(len(p)))); begun.n < b.n {
			t.Fatal(start, p, b, begun)
		}
	}
}

// P5.3: the errors of Best.
func TestBestErrors(t *testing.T) {
	some := slices.Repeat(paths(open(0, 0)), api.MaxExact+1)
	for _, c := range []struct {
		start api.Point
		p     []api.Path
		e     api.Errno
	}{
		{point(far+1, 0), paths(api.Path{}), api.ErrArg},
		{point(0, 0), append(slices.Clone(some), api.Path{}), api.ErrNone},
		{point(0, 0), slices.Repeat(paths(open(0, far+1)), api.MaxExact+1), api.ErrArg},
		{point(0, 0), some, api.ErrLarge},
		{point(0, 0), slices.Repeat(some, 28), api.ErrLarge},
	} {
		if b := got(path.Best(c.start, c.p)); !b.fails(c.e) {
			t.Error(c, b)
		}
	}
	if b := got(path.Best(point(far, -far), some[1:])); !b.same(inTurn(api.MaxExact), far) {
		t.Error(b)
	}
}

// P5.3: always the nearest one, and of several the first one.
func TestNearest(t *testing.T) {
	for _, c := range []struct {
		name  string
		start api.Point
		p     []api.Path
		o     []api.Visit
		n     int
	}{
		{"no paths", point(1, 1), nil, nil, 0},
		{"from the beginning", point(0, 0), example(), visits(back(1), to(0)), 2},
		{"from the other side", point(21, 0), example(), visits(back(0), to(1)), 2},
		{"not the best order", point(0, 0), paths(open(2, 0), open(-3, 0), open(9, 0)), visits(to(0), to(1), to(2)), 19},
		{"by Path", point(0, 0), paths(open(9, 9, 0, 3), open(3, 0)), visits(back(0), to(1)), 3 + 9},
		{"by Start", point(0, 0), paths(closed(9, 9, 0, 3, 3, 0, 0, -3)), visits(from(0, 1)), 3},
		{"without Back", point(0, 0), paths(open(0, 3, 9, 9, 3, 0)), visits(to(0)), 3},
		{"a point without Back", point(0, 0), paths(open(5, 0), open(4, 0)), visits(to(1), to(0)), 5},
		{"the greater difference counts", point(0, 0), paths(open(5, 1), open(4, 4), open(0, 5)), visits(to(1), to(0), to(2)), 4 + 3 + 5},
		{"far away", point(-far, -far), paths(open(far, far), open(-far, far)), visits(to(0), to(1)), 4 * far},
	} {
		if b := got(path.Nearest(c.start, c.p)); !b.same(c.o, c.n) {
			t.Error(c.name, b)
		}
	}
}

func slowNearest(start api.Point, p []api.Path) []api.Visit {
	var o []api.Visit
	met := make([]bool, len(p))
	for range p {
		var best *api.Visit
		least := 0
		for i := range p {
			for _, v := range visitsOf(p, i) {
				begin, _ := endsOf(p[i], v)
				if n := apart(start, begin); !met[i] && (best == nil || n < least) {
					best, least = &v, n
				}
			}
		}
		o = append(o, *best)
		met[best.Path] = true
		_, start = endsOf(p[best.Path], *best)
	}
	return o
}

func TestNearestRandom(t *testing.T) {
	r := rand.New(rand.NewSource(4))
	for range 3000 {
		p, start := randomPaths(r, 1+r.Intn(9), 5), randomPoint(r)
		o := slowNearest(start, p)
		if b := got(path.Nearest(start, p)); !b.same(o, travelOf(start, p, o)) {
			t.Fatal(start, p, b, o)
		}
	}
}

// P5.3: the least travel in a given order, and of several lists the first one.
func TestBegun(t *testing.T) {
	for _, c := range []struct {
		name  string
		start api.Point
		p     []api.Path
		order []int
		o     []api.Visit
		n     int
	}{
		{"no paths", point(1, 1), nil, nil, nil, 0},
		{"in their order", point(0, 0), example(), []int{0, 1}, visits(to(0), to(1)), 21},
		{"in the other order", point(0, 0), example(), []int{1, 0}, visits(back(1), to(0)), 2},
		{"from the far end", point(4, 0), paths(open(1, 0, 9, 0), open(0, 1), open(9, 1)), []int{0, 1, 2}, visits(back(0), to(1), to(2)), 5 + 1 + 9},
		{"of several the first one", point(0, 0), paths(open(5, 0, -5, 0), open(0, 3)), []int{0, 1}, visits(to(0), to(1)), 10},
		{"points", point(0, 0), paths(open(1, 0), open(5, 0), open(3, 0)), []int{2, 1, 0}, visits(to(2), to(1), to(0)), 9},
		{"the best Start", point(0, 0), paths(closed(0, 9, 0, 3, 4, 0), open(9, 3)), []int{0, 1}, visits(from(0, 2), to(1)), 9},
		{"the first of two Starts", point(0, 0), paths(closed(9, 9, 3, 0, 0, 3, 3, 0), open(9, 1)), []int{0, 1}, visits(from(0, 1), to(1)), 9},
	} {
		if b := got(path.Begun(c.start, c.p, c.order)); !b.same(c.o, c.n) {
			t.Error(c.name, b)
		}
	}
}

// slowBegun tries all visits of paths in an order.
func slowBegun(start api.Point, p []api.Path, order []int) ([]api.Visit, int) {
	lists := [][]api.Visit{nil}
	for _, i := range order {
		var longer [][]api.Visit
		for _, list := range lists {
			for _, v := range visitsOf(p, i) {
				longer = append(longer, append(slices.Clone(list), v))
			}
		}
		lists = longer
	}
	best := slices.MinFunc(lists, func(a, b []api.Visit) int {
		if n := travelOf(start, p, a) - travelOf(start, p, b); n != 0 {
			return n
		}
		return compareOrders(a, b)
	})
	return best, travelOf(start, p, best)
}

func TestBegunRandom(t *testing.T) {
	r := rand.New(rand.NewSource(5))
	for range 1500 {
		p, start := randomPaths(r, 1+r.Intn(5), 2), randomPoint(r)
		order := r.Perm(len(p))
		o, n := slowBegun(start, p, order)
		if b := got(path.Begun(start, p, order)); !b.same(o, n) {
			t.Fatal(start, p, order, b, o, n)
		}
	}
}

// P5.3: the errors of Begun, in their order.
func TestBegunErrors(t *testing.T) {
	three := paths(open(0, 0), open(1, 1), closed(2, 2, 3, 3, 4, 4))
	for _, c := range []struct {
		name  string
		start api.Point
		p     []api.Path
		order []int
		e     api.Errno
	}{
		{"a far start first", point(0, -far-1), paths(api.Path{}), nil, api.ErrArg},
		{"then the paths", point(0, 0), paths(api.Path{}), nil, api.ErrNone},
		{"no order", point(0, 0), three, nil, api.ErrForm},
		{"too few", point(0, 0), three, []int{-1, -1}, api.ErrForm},
		{"too many", point(0, 0), three, []int{0, 1, 2, 0}, api.ErrForm},
		{"an order of no paths", point(0, 0), nil, []int{0}, api.ErrForm},
		{"below 0", point(0, 0), three, []int{0, -1, 0}, api.ErrArg},
		{"behind the last one", point(0, 0), three, []int{0, 3, 3}, api.ErrArg},
		{"the least", point(0, 0), three, []int{least, least, 0}, api.ErrArg},
		{"the greatest", point(0, 0), three, []int{0, 1, greatest}, api.ErrArg},
		{"twice", point(0, 0), three, []int{0, 0, -1}, api.ErrTwice},
		{"twice, and one between", point(0, 0), three, []int{2, 1, 2}, api.ErrTwice},
	} {
		if b := got(path.Begun(c.start, c.p, c.order)); !b.fails(c.e) {
			t.Error(c.name, b)
		}
	}
}

// P5.3: the first exchange that makes the travel less, again and again.
func TestImproved(t *testing.T) {
	row := paths(open(1, 0), open(2, 0), open(3, 0), open(4, 0))
	for _, c := range []struct {
		name  string
		start api.Point
		p     []api.Path
		o     []api.Visit
		want  []api.Visit
		n     int
	}{
		{"no paths", point(1, 1), nil, nil, nil, 0},
		{"one path", point(1, 1), paths(open(9, 9, 2, 2)), visits(to(0)), visits(to(0)), 8},
		{"the document's example", point(0, 0), example(), visits(to(0), back(1)), visits(back(1), to(0)), 2},
		{"directions stay", point(0, 0), example(), visits(to(0), to(1)), visits(to(1), to(0)), 18},
		{"as far", point(0, 0), paths(open(1, 0), open(-1, 0)), visits(to(1), to(0)), visits(to(1), to(0)), 3},
		{"neighbours", point(0, 0), row, visits(to(0), to(2), to(1), to(3)), inTurn(4), 4},
		{"the first and the last one", point(0, 0), row, visits(to(3), to(1), to(2), to(0)), inTurn(4), 4},
		{"the last two", point(0, 0), row, visits(to(0), to(1), to(3), to(2)), inTurn(4), 4},
		{"several times", point(0, 0), row, visits(to(3), to(2), to(0), to(1)), inTurn(4), 4},
		{"not the best order", point(0, 0), paths(open(5, 0, 6, 0), open(1, 0, 9, 9)), visits(back(1), to(0)), visits(back(1), to(0)), 9 + 4},
		{"Start stays", point(0, 0), paths(closed(9, 0, 8, 0, 8, 1), open(7, 0)), visits(from(0, 1), to(1)), visits(to(1), from(0, 1)), 8},
	} {
		if b := got(path.Improved(c.start, c.p, c.o)); !b.same(c.want, c.n) {
			t.Error(c.name, b)
		}
	}
}

// slowImproved makes the exchanges one by one, and returns how many there were.
func slowImproved(start api.Point, p []api.Path, o []api.Visit) ([]api.Visit, int) {
	for i := range o {
		for k := i + 1; k < len(o); k++ {
			next := slices.Clone(o)
			next[i], next[k] = next[k], next[i]
			if travelOf(start, p, next) < travelOf(start, p, o) {
				improved, n := slowImproved(start, p, next)
				return improved, n + 1
			}
		}
	}
	return o, 0
}

func TestImprovedRandom(t *testing.T) {
	r := rand.New(rand.NewSource(6))
	most := 0
	for range 2000 {
		p, start := randomPaths(r, r.Intn(12), 4), randomPoint(r)
		o := randomOrder(r, p)
		want, n := slowImproved(start, p, o)
		most = max(most, n)
		b := got(path.Improved(start, p, o))
		if !b.same(want, travelOf(start, p, want)) || b.n > travelOf(start, p, o) {
			t.Fatal(start, p, o, b, want)
		}
	}
	if most < 8 {
		t.Error(most)
	}
}

// P5.2: what the head travels, from start on; not back to it.
func TestTravel(t *testing.T) {
	for _, c := range []struct {
		start api.Point
		p     []api.Path
		o     []api.Visit
		n     int
	}{
		{point(7, 7), nil, nil, 0},
		{point(0, 0), example(), visits(back(1), to(0)), 2},
		{point(0, 0), example(), visits(to(0), to(1)), 21},
		{point(0, 0), example(), visits(to(1), to(0)), 9 + 9},
		{point(0, 0), example(), visits(back(0), back(1)), 20 + 9},
		{point(3, 9), paths(open(3, 4)), visits(to(0)), 5},
		{point(3, 4), paths(open(3, 4)), visits(back(0)), 0},
		{point(0, 0), mixed(), visits(to(0), from(1, 1), back(2), from(3, 2), to(4)), 0 + 3 + 9 + 5 + 3},
		{point(-far, 0), paths(open(far, far, -far, far), open(far, -far)), visits(to(0), to(1)), 4 * far},
	} {
		if n, e := path.Travel(c.start, c.p, c.o); e != api.OK || n != c.n {
			t.Error(c, n, e)
		}
	}
	r := rand.New(rand.NewSource(7))
	for range 1000 {
		p, start := randomPaths(r, r.Intn(8), 5), randomPoint(r)
		o := randomOrder(r, p)
		if n, e := path.Travel(start, p, o); e != api.OK || n != travelOf(start, p, o) {
			t.Fatal(start, p, o, n, e)
		}
	}
}

// P5.2, P5.3: functions with an order return CheckOrder's errors.
func TestWrongOrders(t *testing.T) {
	for _, c := range []struct {
		o []api.Visit
		e api.Errno
	}{
		{visits(to(0)), api.ErrForm},
		{visits(to(0), to(2)), api.ErrArg},
		{visits(to(1), to(1)), api.ErrTwice},
		{visits(to(0), from(1, 1)), api.ErrForm},
	} {
		for _, f := range withStart(point(0, 0), example(), c.o, nil, nil, -1) {
			if f.name == "Best" || f.name == "Nearest" || f.name == "Begun" {
				continue
			}
			results, e := f.run()
			if e != c.e || slices.ContainsFunc(results, func(x any) bool { return !isZero(x) }) {
				t.Error(f.name, c, results, e)
			}
		}
	}
	ring := paths(closed(0, 0, 1, 0, 1, 1))
	for _, v := range []api.Visit{from(0, 3), from(0, -1)} {
		if n, e := path.Travel(point(0, 0), ring, visits(v)); e != api.ErrArg || n != 0 {
			t.Error(v, n, e)
		}
	}
}

// P5.2: all functions with start ask for it before all others.
func TestWrongStart(t *testing.T) {
	wrong := []api.Ring{{}}
	for _, start := range points(far+1, 0, -far-1, 0, 0, far+1, 0, -far-1, least, greatest, greatest, 0, 0, least) {
		for _, f := range append(withStart(start, slices.Repeat(example(), 101), nil, nil, wrong, -1), withStart(start, example()[:1], inTurn(1), []int{0}, nil, 1)...) {
			results, e := f.run()
			if e != api.ErrArg || slices.ContainsFunc(results, func(x any) bool { return !isZero(x) }) {
				t.Error(start, f.name, results, e)
			}
		}
	}
	for _, start := range points(far, far, -far, -far) {
		for _, f := range withStart(start, example(), inTurn(2), []int{0, 1}, nil, 1) {
			if _, e := f.run(); e != api.OK {
				t.Error(start, f.name, e)
			}
		}
	}
}
