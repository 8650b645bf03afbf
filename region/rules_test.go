package region_test

import (
	"math/rand"
	"reflect"
	"slices"
	"strings"
	"sync"
	"testing"

	"beadlayer/api"
	"beadlayer/region"
)

// odd is a number that may be anything.
func odd(r *rand.Rand) int {
	values := []int{least, least + 1, -edge - 2, -edge, -far - 1, -far, -1, 0, 1, 2, 3, 4, api.MaxGrow, api.MaxGrow + 1, api.MaxStep, far, far + 1, edge, edge + 2, 1 << 31, 1 << 62, greatest}
	return values[r.Intn(len(values))]
}

// oddRegion may be invalid in any way.
func oddRegion(r *rand.Rand) []api.Ring {
	all := randomRegion(r)
	for range r.Intn(3) {
		ring := all[r.Intn(len(all))]
		ring[r.Intn(len(ring))] = point(odd(r), odd(r))
	}
	if r.Intn(4) == 0 {
		all = append(all, nil, all[0])
	}
	return all
}

// oddCells may be invalid in any way.
func oddCells(r *rand.Rand) api.Cells {
	c := randomSet(r, r.Intn(9)-5, r.Intn(9)-5).cells(2)
	switch r.Intn(6) {
	case 0:
		c.Step = odd(r)
	case 1:
		c.X, c.Y = odd(r), odd(r)
	case 2:
		c.X = odd(r)
	case 3:
		c.Rows = append(c.Rows, "", "#x")
	}
	return c
}

// Z1, Z3, Z6: no arguments make a call panic, and with an error all else is zero.
func TestAnyArguments(t *testing.T) {
	r := rand.New(rand.NewSource(18))
	for range 5000 {
		rings := oddRegion(r)
		p, n := point(odd(r), odd(r)), odd(r)
		calls := append(withRegion(rings, p, n), withPoints(rings[0])...)
		calls = append(calls, withCells(oddCells(r), oddCells(r), p, n)...)
		for _, f := range calls {
			results, e := f.run()
			for _, x := range results {
				if e != api.OK && !isZero(x) {
					t.Fatal(f.name, rings, p, n, x, e)
				}
			}
		}
	}
}

// goodCalls are all functions, with arguments that are valid.
func goodCalls(rings []api.Ring, a, b api.Cells) []call {
	calls := append(withRegion(rings, point(1, 2), 4), withPoints(rings[0])...)
	return append(append(calls, withCells(a, b, point(1, 2), 1)...), call{"Read", func() ([]any, api.Errno) {
		rings, n, e := region.Read(frameText)
		return []any{rings, n}, e
	}})
}

// Z1: functions without objects can be called by several goroutines at once.
func TestSeveralGoroutines(t *testing.T) {
	var all sync.WaitGroup
	rings, a, b := frame(), square9(), cells(2, 0, 0, "#.#", "###")
	for range 8 {
		all.Go(func() {
			for _, f := range goodCalls(rings, a, b) {
				if _, e := f.run(); e != api.OK {
					t.Error(f.name, e)
				}
			}
		})
	}
	all.Wait()
}

// Z1: calls with the largest arguments return, too.
func TestLargest(t *testing.T) {
	mixed := full(2, 0, 0, 200, 200)
	for i := range mixed.Rows {
		mixed.Rows[i] = strings.Repeat("#.#..#.##.", 20)[i%2:] + "#"[:i%2]
	}
	calls := withRegion(combs(), point(0, 0), 1000)
	for _, c := range []api.Cells{full(2, 0, 0, 200, 200), mixed, corners(2, 0, 0, 200, 200)} {
		calls = append(calls, withCells(c, c, point(0, 0), 0)...)
	}
	for _, f := range calls {
		if _, e := f.run(); e != api.OK {
			t.Error(f.name, e)
		}
	}
}

// spoil changes what is in lists, and in the memory behind them.
func spoil(v reflect.Value) {
	switch v.Kind() {
	case reflect.Slice:
		whole := v.Slice(0, v.Cap())
		for i := range whole.Len() {
			spoil(whole.Index(i))
		}
	case reflect.Struct:
		for i := range v.NumField() {
			spoil(v.Field(i))
		}
	default:
		if v.CanSet() {
			v.SetZero()
		}
	}
}

// wide is a copy with more memory behind its length.
func wide(c api.Cells) api.Cells {
	c.Rows = append(slices.Clone(c.Rows), "x", "xx")[:len(c.Rows)]
	return c
}

func wideRings(r []api.Ring) []api.Ring {
	var all []api.Ring
	for _, ring := range r {
		all = append(all, append(slices.Clone(ring), point(greatest, 0), point(0, 0))[:len(ring)])
	}
	return append(all, nil, square(0, 0, 1))[:len(r)]
}

// Z2: arguments stay as they are, and share no memory with results; what is behind the length of a list is neither looked at nor changed.
func TestOwnMemory(t *testing.T) {
	r := rand.New(rand.NewSource(19))
	for range 300 {
		rings := randomRegion(r)
		a, b := randomSet(r, 0, 0).cells(2), randomSet(r, 2, 1).cells(2)
		plain := goodCalls(rings, a, b)
		wideA, wideB, wideR := wide(a), wide(b), wideRings(rings)
		for i, f := range goodCalls(wideR, wideA, wideB) {
			results, e := f.run()
			want, again := plain[i].run()
			if e != again || !reflect.DeepEqual(results, want) {
				t.Fatal(f.name, rings, a, b, results, want, e, again)
			}
			for _, x := range results {
				spoil(reflect.ValueOf(x))
			}
			if !sameCells(wideA, a) || !sameCells(wideB, b) || !sameRings(wideR, rings) {
				t.Fatal(f.name, "changed an argument")
			}
			last := wideR[0][:len(rings[0])+1][len(rings[0])]
			if wideA.Rows[:len(a.Rows)+1][len(a.Rows)] != "x" || wideR[:len(rings)+1][len(rings)] != nil || last != point(greatest, 0) {
				t.Fatal(f.name, "changed behind the length")
			}
			if next, _ := f.run(); !reflect.DeepEqual(next, want) {
				t.Fatal(f.name, "has kept its result")
			}
		}
	}
}

// Z2: the lists of one result share no memory with each other.
func TestListsApart(t *testing.T) {
	text, _ := region.Text(squares(5))
	read, _, _ := region.Read(text)
	normal, _ := region.Normal(squares(5))
	simplified, _ := region.Simplified(squares(5))
	for _, rings := range [][]api.Ring{read, normal, simplified} {
		for i := range rings {
			if !slices.Equal(rings[i], square(10*i, 0, 5)) {
				t.Fatal(rings)
			}
			spoil(reflect.ValueOf(rings[i]))
		}
	}
	parts, _ := region.Parts(cells(2, 0, 0, "#.#.#", "#.#.#"))
	for i := range parts {
		if !sameCells(parts[i], cells(2, 4*i, 0, "#", "#")) {
			t.Fatal(parts)
		}
		spoil(reflect.ValueOf(parts[i].Rows))
	}
}

// Z5: an empty list and none are the same.
func TestEmptyLists(t *testing.T) {
	none := withRegion(nil, point(0, 0), 2)
	for i, f := range withRegion([]api.Ring{}, point(0, 0), 2) {
		want, e := none[i].run()
		if got, again := f.run(); again != e || e != api.OK || !reflect.DeepEqual(got, want) {
			t.Error(f.name, got, want, again, e)
		}
	}
	for _, p := range [][]api.Point{nil, {}} {
		for _, f := range withPoints(p) {
			if _, e := f.run(); e != api.ErrForm {
				t.Error(f.name, e)
			}
		}
	}
	empty := api.Cells{Step: 2, Rows: []string{}}
	nothing := withCells(cells(2, 0, 0), cells(2, 0, 0), point(0, 0), 1)
	for i, f := range withCells(empty, empty, point(0, 0), 1) {
		want, e := nothing[i].run()
		if got, again := f.run(); again != e || e != api.OK || !reflect.DeepEqual(got, want) {
			t.Error(f.name, got, want, again, e)
		}
	}
	if e := region.CheckRegion([]api.Ring{{}}); e != api.ErrForm {
		t.Error(e)
	}
}

// Z7: the same arguments give the same results, again and again.
func TestSameResults(t *testing.T) {
	r := rand.New(rand.NewSource(20))
	for range 100 {
		rings := randomRegion(r)
		a, b := randomSet(r, 0, 0).cells(2), randomSet(r, 2, 1).cells(2)
		for _, f := range goodCalls(rings, a, b) {
			first, e := f.run()
			for range 10 {
				if next, again := f.run(); e != again || !reflect.DeepEqual(first, next) {
					t.Fatal(f.name, first, next, e, again)
				}
			}
		}
	}
}
