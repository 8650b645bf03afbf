package path_test

import (
	"cmp"
	"math/rand"
	"reflect"
	"slices"

	"beadlayer/api"
	"beadlayer/path"
)

const (
	least    = -1 << 63
	greatest = 1<<63 - 1
	far      = api.MaxCoordinate
)

func point(x, y int) api.Point { return api.Point{X: x, Y: y} }

// points are told as X, Y, X, Y ..
func points(n ...int) []api.Point {
	var all []api.Point
	for i := 0; i < len(n); i += 2 {
		all = append(all, point(n[i], n[i+1]))
	}
	return all
}

func open(n ...int) api.Path { return api.Path{Points: points(n...)} }

func closed(n ...int) api.Path { return api.Path{Points: points(n...), Closed: true} }

func paths(p ...api.Path) []api.Path { return p }

func square(x, y, size int) api.Ring {
	return points(x, y, x+size, y, x+size, y+size, x, y+size)
}

func visits(v ...api.Visit) []api.Visit { return v }

func to(path int) api.Visit { return api.Visit{Path: path} }

func back(path int) api.Visit { return api.Visit{Path: path, Back: true} }

func from(path, start int) api.Visit { return api.Visit{Path: path, Start: start} }

// example is the document's one.
func example() []api.Path { return paths(open(10, 0, 20, 0), open(9, 1, 1, 1)) }

// long is a path that is valid, with n points.
func long(n int) api.Path {
	var p api.Path
	for i := range n {
		p.Points = append(p.Points, point(i, i%7))
	}
	return p
}

// inTurn are visits of all of n paths that are not closed, in their order.
func inTurn(n int) []api.Visit {
	var o []api.Visit
	for i := range n {
		o = append(o, to(i))
	}
	return o
}

func samePaths(a, b []api.Path) bool {
	return slices.EqualFunc(a, b, func(x, y api.Path) bool { return x.Closed == y.Closed && slices.Equal(x.Points, y.Points) })
}

// abs and apart tell distances in another way than the program.
func abs(n int) int {
	if n < 0 {
		return -n
	}
	return n
}

func apart(a, b api.Point) int {
	if abs(a.X-b.X) > abs(a.Y-b.Y) {
		return abs(a.X - b.X)
	}
	return abs(a.Y - b.Y)
}

// endsOf are where a visit begins and ends.
func endsOf(p api.Path, v api.Visit) (api.Point, api.Point) {
	n := len(p.Points)
	switch {
	case p.Closed:
		return p.Points[v.Start], p.Points[v.Start]
	case v.Back:
		return p.Points[n-1], p.Points[0]
	}
	return p.Points[0], p.Points[n-1]
}

func travelOf(start api.Point, p []api.Path, o []api.Visit) int {
	sum := 0
	for _, v := range o {
		begin, end := endsOf(p[v.Path], v)
		sum += apart(start, begin)
		start = end
	}
	return sum
}

// visitsOf are all visits of a path, by Start, then Back.
func visitsOf(p []api.Path, i int) []api.Visit {
	if !p[i].Closed {
		return visits(to(i), back(i))
	}
	var all []api.Visit
	for k := range p[i].Points {
		all = append(all, from(i, k))
	}
	return all
}

// randomPoint is near 0, 0: so many points are at one place, and many distances are equal.
func randomPoint(r *rand.Rand) api.Point { return point(r.Intn(9)-4, r.Intn(9)-4) }

func randomPath(r *rand.Rand, most int) api.Path {
	p := api.Path{Closed: r.Intn(3) == 0}
	n := 1 + r.Intn(most)
	if p.Closed {
		n = 3 + r.Intn(most)
	}
	for range n {
		p.Points = append(p.Points, randomPoint(r))
	}
	return p
}

func randomPaths(r *rand.Rand, n, most int) []api.Path {
	var p []api.Path
	for range n {
		p = append(p, randomPath(r, most))
	}
	return p
}

func randomOrder(r *rand.Rand, p []api.Path) []api.Visit {
	var o []api.Visit
	for _, i := range r.Perm(len(p)) {
		all := visitsOf(p, i)
		o = append(o, all[r.Intn(len(all))])
	}
	return o
}

// compareOrders is the lexicographic order: visit by visit by Path, then Start, then Back.
func compareOrders(a, b []api.Visit) int {
	return slices.CompareFunc(a, b, func(v, w api.Visit) int {
		turned := 0
		if v.Back != w.Back {
			turned = 1
			if w.Back {
				turned = -1
			}
		}
		return cmp.Or(cmp.Compare(v.Path, w.Path), cmp.Compare(v.Start, w.Start), turned)
	})
}

func isZero(value any) bool {
	v := reflect.ValueOf(value)
	if v.Kind() == reflect.Slice {
		return v.Len() == 0
	}
	return v.IsZero()
}

// call is a function of the package, with all its arguments.
type call struct {
	name string
	run  func() ([]any, api.Errno)
}

// withPaths are all functions with paths, but no start.
func withPaths(p []api.Path, v api.Visit, o []api.Visit) []call {
	return []call{
		{"CheckPaths", func() ([]any, api.Errno) { return nil, path.CheckPaths(p) }},
		{"CheckOrder", func() ([]any, api.Errno) { return nil, path.CheckOrder(p, o) }},
		{"Long", func() ([]any, api.Errno) { l, n, e := path.Long(p); return []any{l, n}, e }},
		{"Ends", func() ([]any, api.Errno) { a, b, e := path.Ends(p, v); return []any{a, b}, e }},
		{"Points", func() ([]any, api.Errno) { l, e := path.Points(p, v); return []any{l}, e }},
		{"Chained", func() ([]any, api.Errno) { l, e := path.Chained(p); return []any{l}, e }},
		{"Text", func() ([]any, api.Errno) { s, e := path.Text(p); return []any{s}, e }},
	}
}

// withStart are all functions with a start.
func withStart(start api.Point, p []api.Path, o []api.Visit, order []int, r []api.Ring, free int) []call {
	return []call{
		{"Travel", func() ([]any, api.Errno) { n, e := path.Travel(start, p, o); return []any{n}, e }},
		{"Best", func() ([]any, api.Errno) { l, n, e := path.Best(start, p); return []any{l, n}, e }},
		{"Nearest", func() ([]any, api.Errno) { l, n, e := path.Nearest(start, p); return []any{l, n}, e }},
		{"Begun", func() ([]any, api.Errno) { l, n, e := path.Begun(start, p, order); return []any{l, n}, e }},
		{"Improved", func() ([]any, api.Errno) { l, n, e := path.Improved(start, p, o); return []any{l, n}, e }},
		{"Retractions", func() ([]any, api.Errno) { l, e := path.Retractions(r, start, p, o, free); return []any{l}, e }},
	}
}

func withWay(r []api.Ring, a, b api.Point) call {
	return call{"Meets", func() ([]any, api.Errno) { n, e := path.Meets(r, a, b); return []any{n}, e }}
}
