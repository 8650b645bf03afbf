package fill_test

import (
	"math/rand"
	"reflect"
	"slices"
	"sync"
	"testing"

	"beadlayer/api"
	"beadlayer/fill"
)

// odd is a number that may be anything.
func odd(r *rand.Rand) int {
	values := []int{least, least + 1, -edge, -far - 1, -far, -api.MaxPhase - 1, -1, 0, 1, 2, 3, 4, api.MaxWalls + 1, api.MaxStack, api.MaxGrid, api.MaxGrid + 1, api.MaxStep, far, far + 1, edge, 1 << 31, 1 << 62, greatest}
	return values[r.Intn(len(values))]
}

// oddCells may be invalid in any way.
func oddCells(r *rand.Rand) api.Cells {
	c := randomCells(r, 4)
	switch r.Intn(8) {
	case 0:
		c.Step = odd(r)
	case 1:
		c.X, c.Y = odd(r), odd(r)
	case 2:
		c.X = odd(r)
	case 3:
		c.Rows = append(c.Rows, "", "#x")
	}
	return c
}

// oddPaths may be invalid in any way.
func oddPaths(r *rand.Rand) []api.Path {
	var all []api.Path
	for range r.Intn(4) {
		p := randomPath(r, 4)
		switch r.Intn(4) {
		case 0:
			p.Points = nil
		case 1:
			p.Points[0] = point(odd(r), odd(r))
		}
		all = append(all, p)
	}
	return all
}

// Z1, Z3, Z6: no arguments make a call panic, and with an error all else is zero.
func TestAnyArguments(t *testing.T) {
	r := rand.New(rand.NewSource(10))
	for range 5000 {
		c, p, l := oddCells(r), oddPaths(r), []api.Cells{oddCells(r), oddCells(r), oddCells(r)}[:r.Intn(4)]
		quarter, n, phase := r.Intn(3), odd(r), odd(r)
		if r.Intn(2) == 0 {
			n, phase = r.Intn(5), r.Intn(5)
		}
		s := api.Style{Walls: n, Top: odd(r), Bottom: phase, Every: odd(r)}
		f := api.Filling{Walls: l, Solid: c, Sparse: oddCells(r)}
		for _, f := range append(withCells(c, quarter, n, phase, p), withLayers(l, n, s, f)...) {
			results, e := f.run()
			for _, x := range results {
				if e != api.OK && !isZero(x) {
					t.Fatal(f.name, c, p, l, quarter, n, phase, s, x, e)
				}
			}
		}
	}
}

// goodCalls are all functions, with arguments that are valid if there are two layers and covered cells.
func goodCalls(c api.Cells, p []api.Path, l []api.Cells, f api.Filling) []call {
	style := api.Style{Walls: 1, Top: 1, Bottom: 1, Every: 2}
	return append(withCells(c, 1, 2, 1, p), withLayers(l, 1, style, f)...)
}

// exampleFilling has a wall, solid and sparse cells.
func exampleFilling() api.Filling {
	return filling(cells(2, 2, 2, "#"), cells(2, 4, 2, "#"), cells(2, 0, 0, "####", "#..#", "####"))
}

// Z1: functions without objects can be called by several goroutines at once.
func TestSeveralGoroutines(t *testing.T) {
	var all sync.WaitGroup
	c, p, l, f := frame(), paths(open(5, 5, 25, 5)), pile(), exampleFilling()
	for range 8 {
		all.Go(func() {
			for _, f := range goodCalls(c, p, l, f) {
				if _, e := f.run(); e != api.OK {
					t.Error(f.name, e)
				}
			}
		})
	}
	all.Wait()
}

// Z1: calls with the largest arguments return, too.
func TestLargest(t *testing.T) {
	r := rand.New(rand.NewSource(11))
	mixed := chess(10)
	mixed.Rows[50], mixed.Rows[51] = full(10, 0, 0, 200, 1).Rows[0], full(10, 0, 0, 200, 1).Rows[0]
	var most, level []api.Path
	for range api.MaxPaths {
		p, q := api.Path{Closed: true}, api.Path{Closed: true}
		for i := range api.MaxRing {
			p.Points = append(p.Points, point(r.Intn(200)*10+5, r.Intn(200)*10+5))
			q.Points = append(q.Points, point(5+i%2*1990, 5))
		}
		most, level = append(most, p), append(level, q)
	}
	style := api.Style{Walls: api.MaxWalls, Top: 12, Bottom: 13, Every: 1}
	for _, c := range []api.Cells{full(10, 0, 0, 200, 200), chess(10), mixed} {
		l := slices.Repeat([]api.Cells{c}, api.MaxStack)
		for _, p := range [][]api.Path{most, level} {
			for _, f := range append(withCells(c, 1, api.MaxWalls, 0, p), withLayers(l[:3], 1, style, filling(c, cells(10, 0, 0)))...) {
				if _, e := f.run(); e != api.OK {
					t.Error(f.name, e)
				}
			}
		}
		plan, e := fill.Plan(l, style)
		if e != api.OK || len(plan) != api.MaxStack {
			t.Error(len(plan), e)
		}
		if got, e := fill.Bridges(cells(10, 0, 0), c); e != api.OK || len(got) == 0 {
			t.Error(len(got), e)
		}
	}
}

// spoil changes what is in lists, and in the memory behind them.
func spoil(v reflect.Value) {
	switch v.Kind() {
	case reflect.Slice:
		whole := v.Slice(0, v.Cap())
		for i := range whole.Len() {
			spoil(whole.Index(i))
		}
	case reflect.Struct:
		for i := range v.NumField() {
			spoil(v.Field(i))
		}
	default:
		if v.CanSet() {
			v.SetZero()
		}
	}
}

// wide is a copy with more memory behind its length.
func wide(c api.Cells) api.Cells {
	c.Rows = append(slices.Clone(c.Rows), "x", "xx")[:len(c.Rows)]
	return c
}

func wideCells(l []api.Cells) []api.Cells {
	var all []api.Cells
	for _, c := range l {
		all = append(all, wide(c))
	}
	return append(all, api.Cells{}, api.Cells{})[:len(l)]
}

func widePaths(p []api.Path) []api.Path {
	var all []api.Path
	for _, path := range p {
		all = append(all, api.Path{Points: append(slices.Clone(path.Points), point(greatest, 0), point(1, 1))[:len(path.Points)], Closed: path.Closed})
	}
	return append(all, api.Path{}, api.Path{})[:len(p)]
}

// unchanged reports whether wide lists are as they were, and what is behind their length, too.
func unchanged(wider, l []api.Cells) bool {
	behind := wider[:len(l)+2][len(l):]
	if len(wider) != len(l) || !isZero(behind[0]) || !isZero(behind[1]) {
		return false
	}
	return slices.EqualFunc(wider, l, func(w, c api.Cells) bool {
		return sameCells(w, c) && w.Rows[:len(c.Rows)+1][len(c.Rows)] == "x"
	})
}

func unchangedPaths(wider, p []api.Path) bool {
	behind := wider[:len(p)+2][len(p):]
	return samePaths(wider, p) && isZero(behind[0]) && isZero(behind[1]) && !slices.ContainsFunc(wider, func(path api.Path) bool {
		n := len(path.Points)
		return path.Points[:n+2][n] != point(greatest, 0)
	})
}

// Z2: arguments stay as they are, and share no memory with results; what is behind the length of a list is neither looked at nor changed.
func TestOwnMemory(t *testing.T) {
	r := rand.New(rand.NewSource(12))
	for range 500 {
		l, p := append(randomPile(r, 4), randomCells(r, 4)), paths(randomPath(r, 4), randomPath(r, 4))
		plan, _ := fill.Plan(l, api.Style{Walls: 2, Top: 1, Every: 1})
		plain := goodCalls(l[0], p, l, plan[0])
		wideL, wideP, f := wideCells(l), widePaths(p), plan[0]
		f.Walls, f.Solid = wideCells(f.Walls), wide(f.Solid)
		for i, run := range goodCalls(wideL[0], wideP, wideL, f) {
			results, e := run.run()
			want, again := plain[i].run()
			if e != again || !reflect.DeepEqual(results, want) {
				t.Fatal(run.name, l, p, results, want, e, again)
			}
			for _, x := range results {
				spoil(reflect.ValueOf(x))
			}
			if !unchanged(wideL, l) || !unchanged(f.Walls, plan[0].Walls) || !unchangedPaths(wideP, p) || !sameCells(f.Solid, plan[0].Solid) {
				t.Fatal(run.name, "changed an argument")
			}
			if next, _ := run.run(); !reflect.DeepEqual(next, want) {
				t.Fatal(run.name, "has kept its result")
			}
		}
	}
}

// Z2: the lists of one result share no memory with each other, and the calls that follow do not see what became of them.
func TestListsApart(t *testing.T) {
	for _, f := range []func(api.Cells, int, int, int) ([]api.Path, api.Errno){fill.Lines, fill.Zigzag} {
		all, _ := f(cells(2, 0, 0, "##.##.##", "##......"), 0, 1, 0)
		want, _ := f(cells(2, 0, 0, "##.##.##", "##......"), 0, 1, 0)
		for i := range all {
			if !samePaths(all[i:], want[i:]) {
				t.Fatal(all, want)
			}
			spoil(reflect.ValueOf(all[i].Points))
		}
	}
	walls, inside, _ := fill.Walls(full(2, 0, 0, 3, 3), 5)
	want, rest, _ := fill.Walls(full(2, 0, 0, 3, 3), 5)
	for i := range walls {
		if !slices.EqualFunc(walls[i:], want[i:], sameCells) || !sameCells(inside, rest) {
			t.Fatal(walls, want)
		}
		spoil(reflect.ValueOf(walls[i].Rows))
	}
	l := slices.Repeat([]api.Cells{full(2, 0, 0, 3, 3)}, 3)
	style := api.Style{Top: 1, Every: 1}
	plan, _ := fill.Plan(l, style)
	again, _ := fill.Plan(l, style)
	for i := range plan {
		if !slices.EqualFunc(plan[i:], again[i:], sameFilling) {
			t.Fatal(plan, again)
		}
		spoil(reflect.ValueOf(plan[i]))
	}
	bridges, _ := fill.Bridges(cells(2, 0, 0), cells(2, 0, 0, "#.#.#"))
	same, _ := fill.Bridges(cells(2, 0, 0), cells(2, 0, 0, "#.#.#"))
	for i := range bridges {
		if !slices.EqualFunc(bridges[i:], same[i:], sameBridge) {
			t.Fatal(bridges, same)
		}
		spoil(reflect.ValueOf(bridges[i].Part.Rows))
	}
}

// Z5: an empty list and none are the same.
func TestEmptyLists(t *testing.T) {
	empty := api.Cells{Step: 2, Rows: []string{}}
	none := goodCalls(cells(2, 0, 0), nil, nil, filling(cells(2, 0, 0), cells(2, 0, 0)))
	for i, f := range goodCalls(empty, []api.Path{}, []api.Cells{}, api.Filling{Walls: []api.Cells{}, Solid: empty, Sparse: empty}) {
		want, e := none[i].run()
		if got, again := f.run(); again != e || !reflect.DeepEqual(got, want) {
			t.Error(f.name, got, want, again, e)
		}
	}
	if _, e := fill.Covered(empty, []api.Path{{Points: []api.Point{}}}); e != api.ErrNone {
		t.Error(e)
	}
	if got, e := fill.Plan([]api.Cells{empty}, api.Style{Every: 1}); e != api.OK || len(got) != 1 || !sameFilling(got[0], filling(empty, empty)) {
		t.Error(got, e)
	}
}

// Z7: the same arguments give the same results, again and again.
func TestSameResults(t *testing.T) {
	r := rand.New(rand.NewSource(13))
	for range 100 {
		l, p := append(randomPile(r, 4), randomCells(r, 4)), paths(randomPath(r, 4))
		plan, _ := fill.Plan(l, api.Style{Walls: 2, Top: 1, Every: 1})
		for _, f := range goodCalls(l[0], p, l, plan[0]) {
			first, e := f.run()
			for range 10 {
				if next, again := f.run(); e != again || !reflect.DeepEqual(first, next) {
					t.Fatal(f.name, first, next, e, again)
				}
			}
		}
	}
}
