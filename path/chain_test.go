package path_test

import (
	"math/rand"
	"slices"
	"testing"

	"beadlayer/api"
	"beadlayer/path"
)

// P5.4: paths that follow one another become one.
func TestChained(t *testing.T) {
	for _, c := range []struct {
		name    string
		p, want []api.Path
	}{
		{"no paths", nil, nil},
		{"one path", paths(open(1, 1, 2, 2)), paths(open(1, 1, 2, 2))},
		{"none follows another", example(), example()},
		{"two", paths(open(0, 0, 3, 0), open(3, 0, 5, 5)), paths(open(0, 0, 3, 0, 5, 5))},
		{"the second one first", paths(open(3, 0, 5, 0), open(9, 0), open(0, 0, 3, 0)), paths(open(9, 0), open(0, 0, 3, 0, 5, 0))},
		{"in the place of the first one", paths(open(9, 9), open(0, 0, 3, 0), open(8, 8), open(3, 0, 5, 5), open(7, 7)), paths(open(9, 9), open(0, 0, 3, 0, 5, 5), open(8, 8), open(7, 7))},
		{"three", paths(open(2, 0, 3, 0), open(1, 0, 2, 0), open(3, 0, 4, 0)), paths(open(1, 0, 2, 0, 3, 0, 4, 0))},
		{"not with itself", paths(open(0, 0, 3, 0, 0, 0)), paths(open(0, 0, 3, 0, 0, 0))},
		{"not with itself, but with another one", paths(open(0, 0, 3, 0, 0, 0), open(0, 0, 1, 1)), paths(open(0, 0, 3, 0, 0, 0, 1, 1))},
		{"in a ring", paths(open(0, 0, 3, 0), open(3, 0, 0, 0)), paths(open(0, 0, 3, 0, 0, 0))},
		{"in a ring of three", paths(open(1, 0, 2, 2), open(0, 0, 1, 0), open(2, 2, 0, 0)), paths(open(1, 0, 2, 2, 0, 0, 1, 0))},
		{"the first that ends there", paths(open(5, 5, 3, 0), open(0, 0, 3, 0), open(3, 0, 7, 7)), paths(open(5, 5, 3, 0, 7, 7), open(0, 0, 3, 0))},
		{"the first that begins there", paths(open(3, 0, 8, 8), open(3, 0, 7, 7), open(0, 0, 3, 0)), paths(open(3, 0, 7, 7), open(0, 0, 3, 0, 8, 8))},
		{"the first that begins there, behind", paths(open(0, 0, 3, 0), open(3, 0, 8, 8), open(3, 0, 7, 7)), paths(open(0, 0, 3, 0, 8, 8), open(3, 0, 7, 7))},
		{"not where both end", paths(open(0, 0, 3, 0), open(5, 5, 3, 0)), paths(open(0, 0, 3, 0), open(5, 5, 3, 0))},
		{"not where both begin", paths(open(0, 0, 3, 0), open(0, 0, 5, 5)), paths(open(0, 0, 3, 0), open(0, 0, 5, 5))},
		{"points", paths(open(3, 0), open(0, 0, 3, 0), open(3, 0)), paths(open(0, 0, 3, 0))},
		{"a point first", paths(open(3, 0), open(3, 0, 4, 4)), paths(open(3, 0, 4, 4))},
		{"other points stay", paths(open(0, 0, 3, 0, 3, 0), open(3, 0, 3, 0, 5, 5)), paths(open(0, 0, 3, 0, 3, 0, 3, 0, 5, 5))},
		{"a closed one does not follow", paths(open(0, 0, 3, 0), closed(3, 0, 5, 5, 0, 5)), paths(open(0, 0, 3, 0), closed(3, 0, 5, 5, 0, 5))},
		{"a closed one is not followed", paths(closed(5, 5, 0, 5, 3, 0), open(3, 0, 1, 1)), paths(closed(5, 5, 0, 5, 3, 0), open(3, 0, 1, 1))},
		{"closed ones stay", paths(open(3, 0, 9, 9), closed(3, 0, 5, 5, 3, 0), open(0, 0, 3, 0), closed(3, 0, 3, 0, 3, 0)), paths(closed(3, 0, 5, 5, 3, 0), open(0, 0, 3, 0, 9, 9), closed(3, 0, 3, 0, 3, 0))},
	} {
		if got, e := path.Chained(c.p); e != api.OK || !samePaths(got, c.want) {
			t.Error(c.name, got, e)
		}
	}
}

// slowChained looks for the first pair of paths, again and again.
func slowChained(p []api.Path) []api.Path {
	for i, a := range p {
		for k, b := range p {
			if i == k || a.Closed || b.Closed || a.Points[len(a.Points)-1] != b.Points[0] {
				continue
			}
			var next []api.Path
			for at, one := range p {
				switch at {
				case i:
					next = append(next, api.Path{Points: slices.Concat(a.Points, b.Points[1:])})
				case k:
				default:
					next = append(next, one)
				}
			}
			return slowChained(next)
		}
	}
	return p
}

// P5.4: what is chained is as long as before.
func TestChainedRandom(t *testing.T) {
	r := rand.New(rand.NewSource(10))
	fewer := 0
	for range 3000 {
		p := randomPaths(r, r.Intn(12), 3)
		for i := range p {
			for k := range p[i].Points {
				p[i].Points[k].X /= 2
				p[i].Points[k].Y /= 2
			}
		}
		want := slowChained(p)
		got, e := path.Chained(p)
		if e != api.OK || !samePaths(got, want) {
			t.Fatal(p, got, want, e)
		}
		_, before, _ := path.Long(p)
		if _, after, _ := path.Long(got); before != after {
			t.Fatal(p, before, after)
		}
		if len(got) < len(p)-2 {
			fewer++
		}
	}
	if fewer < 100 {
		t.Error(fewer)
	}
}

// P5.4: CheckPaths' errors for the result.
func TestChainedTooLong(t *testing.T) {
	first := long(300)
	second := func(n int) api.Path {
		p := long(n)
		p.Points[0] = first.Points[299]
		return p
	}
	if got, e := path.Chained(paths(second(201), first)); e != api.OK || len(got) != 1 || len(got[0].Points) != api.MaxRing {
		t.Error(got, e)
	}
	if got, e := path.Chained(paths(second(202), first)); e != api.ErrLarge || len(got) > 0 {
		t.Error(got, e)
	}
	if got, e := path.Chained(paths(open(9, 9), first, second(202))); e != api.ErrLarge || len(got) > 0 {
		t.Error(got, e)
	}
	var ends []api.Path
	for i := range api.MaxPaths {
		ends = append(ends, open(i, 0, i+1, 0))
	}
	slices.Reverse(ends)
	if got, e := path.Chained(ends); e != api.OK || len(got) != 1 || !slices.Equal(got[0].Points, row(api.MaxPaths+1)) {
		t.Error(got, e)
	}
}

func row(n int) []api.Point {
	var all []api.Point
	for i := range n {
		all = append(all, point(i, 0))
	}
	return all
}
