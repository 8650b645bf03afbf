package slice_test

import (
	"math/big"
	"math/rand"
	"slices"
	"testing"

	"beadlayer/api"
	"beadlayer/slice"
)

func whole(n int) api.Fraction { return api.Fraction{Num: n, Den: 1} }

func cutOf(s api.Side, x, y api.Fraction) api.Cut { return api.Cut{Side: s, X: x, Y: y} }

// P2.1: the document's example.
func TestCutsExample(t *testing.T) {
	cuts, e := slice.Cuts(tetra(), 2)
	if want := []api.Cut{cutOf(side(0, 3), whole(0), whole(0)), cutOf(side(1, 3), whole(4), whole(0)), cutOf(side(2, 3), whole(0), whole(4))}; e != api.OK || !slices.Equal(cuts, want) {
		t.Error(cuts, e)
	}
	segments, e := slice.Segments(tetra(), 2)
	if want := []api.Segment{{Face: 1, From: side(0, 3), To: side(1, 3)}, {Face: 2, From: side(1, 3), To: side(2, 3)}, {Face: 3, From: side(2, 3), To: side(0, 3)}}; e != api.OK || !slices.Equal(segments, want) {
		t.Error(segments, e)
	}
}

// P2.1: points are exact fractions in lowest terms, with denominators above 0.
func TestCutsFractions(t *testing.T) {
	m := tetra()
	m.Vertices = []api.Vec{vec(-5, 1, -3), vec(7, -2, 9), vec(1, 8, 2), vec(-5, -9, 12)}
	cuts, e := slice.Cuts(m, 0)
	want := []api.Cut{
		cutOf(side(0, 1), whole(-2), api.Fraction{Num: 1, Den: 4}),
		cutOf(side(0, 2), api.Fraction{Num: -7, Den: 5}, api.Fraction{Num: 26, Den: 5}),
		cutOf(side(0, 3), whole(-5), whole(-1)),
	}
	if e != api.OK || !slices.Equal(cuts, want) {
		t.Error(cuts, e)
	}
	m.Vertices = []api.Vec{vec(-far, far, -far), vec(far, -far, far), vec(far, far, far-1), vec(-far, -far, far)}
	cuts, e = slice.Cuts(m, far-1)
	want = []api.Cut{
		cutOf(side(0, 1), whole(far-1), whole(1-far)),
		cutOf(side(0, 2), whole(far), whole(far)),
		cutOf(side(0, 3), whole(-far), whole(1-far)),
	}
	if e != api.OK || !slices.Equal(cuts, want) {
		t.Error(cuts, e)
	}
	cuts, e = slice.Cuts(m, 0)
	want = []api.Cut{
		cutOf(side(0, 1), whole(0), whole(0)),
		cutOf(side(0, 2), api.Fraction{Num: 100_000, Den: 199_999}, whole(far)),
		cutOf(side(0, 3), whole(-far), whole(0)),
	}
	if e != api.OK || !slices.Equal(cuts, want) {
		t.Error(cuts, e)
	}
}

// P2.1: a vertex at the height counts as above it, and sides that meet there are cut each.
func TestCutsAtVertices(t *testing.T) {
	one := func(a, b, c int) api.Mesh {
		return api.Mesh{Vertices: []api.Vec{vec(0, 0, a), vec(4, 0, b), vec(0, 4, c)}, Faces: []api.Face{face(0, 1, 2)}}
	}
	for _, c := range []struct {
		m    api.Mesh
		want []api.Segment
	}{
		{one(5, 5, 5), nil},
		{one(5, 6, 7), nil},
		{one(4, 3, 2), nil},
		{one(5, 5, 4), []api.Segment{{From: side(2, 1), To: side(2, 0)}}},
		{one(5, 4, 4), []api.Segment{{From: side(1, 0), To: side(2, 0)}}},
		{one(5, 4, 6), []api.Segment{{From: side(1, 0), To: side(1, 2)}}},
		{one(4, 5, 6), []api.Segment{{From: side(0, 2), To: side(0, 1)}}},
		{one(4, 6, 4), []api.Segment{{From: side(2, 1), To: side(0, 1)}}},
	} {
		if got, e := slice.Segments(c.m, 5); e != api.OK || !slices.Equal(got, c.want) {
			t.Error(c.m.Vertices, got, e)
		}
	}
	cuts, e := slice.Cuts(tetra(), 6)
	if want := []api.Cut{cutOf(side(0, 3), whole(0), whole(0)), cutOf(side(1, 3), whole(0), whole(0)), cutOf(side(2, 3), whole(0), whole(0))}; e != api.OK || !slices.Equal(cuts, want) {
		t.Error(cuts, e)
	}
	for _, z := range []int{-far, -1, 0, 7, far} {
		if cuts, e := slice.Cuts(tetra(), z); e != api.OK || len(cuts) != 0 {
			t.Error(z, cuts, e)
		}
		if segments, e := slice.Segments(tetra(), z); e != api.OK || len(segments) != 0 {
			t.Error(z, segments, e)
		}
	}
}

// P2.1: the inside of a closed mesh is on the left.
func TestSegmentsLeft(t *testing.T) {
	m := block(vec(0, 0, 0), vec(10, 10, 10))
	cuts, _ := slice.Cuts(m, 5)
	at := make(map[api.Side]api.Point)
	for _, c := range cuts {
		at[c.Side] = api.Point{X: c.X.Num / c.X.Den, Y: c.Y.Num / c.Y.Den}
	}
	segments, e := slice.Segments(m, 5)
	if e != api.OK || len(segments) != 8 || len(cuts) != 8 {
		t.Fatal(segments, cuts, e)
	}
	for i, s := range segments {
		a, b := at[s.From], at[s.To]
		if (b.X-a.X)*(5-a.Y)-(b.Y-a.Y)*(5-a.X) <= 0 || i > 0 && s.Face <= segments[i-1].Face {
			t.Error(s, a, b)
		}
	}
}

// slowSegments looks at all sides of all faces.
func slowSegments(m api.Mesh, z int) []api.Segment {
	var list []api.Segment
	for i, f := range m.Faces {
		s, found := api.Segment{Face: i}, false
		for _, d := range [][2]int{{f.A, f.B}, {f.B, f.C}, {f.C, f.A}} {
			a, b := m.Vertices[d[0]].Z, m.Vertices[d[1]].Z
			if a < z && b >= z {
				s.To, found = side(d[0], d[1]), true
			}
			if a >= z && b < z {
				s.From, found = side(d[1], d[0]), true
			}
		}
		if found {
			list = append(list, s)
		}
	}
	return list
}

// slowPoint is a + (b - a) (z - a.Z) / (b.Z - a.Z), for one coordinate.
func slowPoint(a, b, low, high, z int) *big.Rat {
	part := big.NewRat(int64(z-low), int64(high-low))
	part.Mul(part, big.NewRat(int64(b-a), 1))
	return part.Add(part, big.NewRat(int64(a), 1))
}

func isFraction(f api.Fraction, r *big.Rat) bool {
	return int64(f.Num) == r.Num().Int64() && int64(f.Den) == r.Denom().Int64()
}

// P2.1: against another way to find cuts.
func TestCutsRandom(t *testing.T) {
	r := rand.New(rand.NewSource(1))
	for n := range 2000 {
		m := random(r)
		if n%2 == 0 {
			m = ball(r, 2*far+1)
		}
		z := m.Vertices[r.Intn(len(m.Vertices))].Z
		if r.Intn(3) == 0 {
			z = (z + m.Vertices[0].Z) / 2
		}
		segments, e := slice.Segments(m, z)
		if e != api.OK || !slices.Equal(segments, slowSegments(m, z)) {
			t.Fatal(m, z, segments, e)
		}
		cut := make(map[api.Side]bool)
		for _, s := range segments {
			cut[s.From], cut[s.To] = true, true
		}
		cuts, e := slice.Cuts(m, z)
		if e != api.OK || len(cuts) != len(cut) {
			t.Fatal(m, z, cuts, e)
		}
		for i, c := range cuts {
			a, b := m.Vertices[c.Side.From], m.Vertices[c.Side.To]
			if !cut[c.Side] || !isFraction(c.X, slowPoint(a.X, b.X, a.Z, b.Z, z)) || !isFraction(c.Y, slowPoint(a.Y, b.Y, a.Z, b.Z, z)) {
				t.Fatal(m, z, c)
			}
			if i > 0 && (c.Side.From < cuts[i-1].Side.From || c.Side.From == cuts[i-1].Side.From && c.Side.To <= cuts[i-1].Side.To) {
				t.Fatal(m, z, cuts)
			}
		}
	}
}

// P2.1: the error of the mesh first, then that of the height, and all else is zero (Z3).
func TestHeightErrors(t *testing.T) {
	var wrong []api.Mesh
	for _, change := range []func(m *api.Mesh){
		func(m *api.Mesh) { m.Faces = nil },
		func(m *api.Mesh) { m.Vertices = make([]api.Vec, api.MaxVertices+1) },
		func(m *api.Mesh) { m.Faces = make([]api.Face, api.MaxFaces+1) },
		func(m *api.Mesh) { m.Vertices[2].Z = far + 1 },
		func(m *api.Mesh) { m.Faces[1].C = 4 },
		func(m *api.Mesh) { m.Faces[3].C = 0 },
		func(m *api.Mesh) { m.Faces = append(m.Faces, m.Faces[0]) },
	} {
		m := tetra()
		change(&m)
		wrong = append(wrong, m)
	}
	errors := []api.Errno{api.ErrNone, api.ErrLarge, api.ErrLarge, api.ErrArg, api.ErrNone, api.ErrForm, api.ErrTwice}
	for i, m := range wrong {
		for _, z := range []int{least, 3, far + 1} {
			for _, f := range append(atHeight(z), withThickness(z, z, z)...) {
				results, e := f.run(m)
				if e != errors[i] {
					t.Errorf("%s of %d: %v, not %v", f.name, i, e, errors[i])
				}
				for _, x := range results {
					if !isZero(x) {
						t.Error(f.name, i, x)
					}
				}
			}
		}
	}
	for _, z := range []int{least, -far - 1, far + 1, greatest} {
		for _, f := range atHeight(z) {
			results, e := f.run(tetra())
			if e != api.ErrArg || slices.ContainsFunc(results, func(x any) bool { return !isZero(x) }) {
				t.Error(f.name, z, results, e)
			}
		}
	}
	for _, z := range []int{-far, far} {
		for _, f := range atHeight(z) {
			if results, e := f.run(tetra()); e != api.OK {
				t.Error(f.name, z, results, e)
			}
		}
	}
}
