package mesh_test

import (
	"math/rand"
	"slices"
	"testing"

	"beadlayer/api"
	"beadlayer/mesh"
)

// leaning has faces whose normals are 0, -y, -z for each pair y, z of the list.
func leaning(pairs [][2]int) api.Mesh {
	var m api.Mesh
	for _, p := range pairs {
		n := len(m.Vertices)
		m.Vertices = append(m.Vertices, api.Vec{}, api.Vec{X: 1}, api.Vec{Y: -p[1], Z: p[0]})
		m.Faces = append(m.Faces, api.Face{A: n, B: n + 1, C: n + 2})
	}
	return m
}

// P1.4: faces hang over if -N.Z times Den is greater than the greater one of |N.X| and |N.Y| times Num.
func TestOverhangs(t *testing.T) {
	pairs := [][2]int{{1, 1}, {1, 2}, {2, 1}, {-3, 1}, {0, 1}, {1, 0}, {1, -1}, {0, -1}, {-2, 3}}
	m := leaning(pairs)
	for i, p := range pairs {
		if n, e := mesh.Normal(m, i); e != api.OK || n != (api.Vec{Y: -p[0], Z: -p[1]}) {
			t.Fatal(p, n, e)
		}
	}
	turned, _ := mesh.Turned(m, api.AxisZ, 1)
	opposite, _ := mesh.Turned(m, api.AxisZ, 2)
	for slope, want := range map[api.Fraction][]int{
		{Num: 0, Den: 1}:    {0, 1, 2, 3, 4, 8},
		{Num: 1, Den: 1}:    {1, 4, 8},
		{Num: 1, Den: 2}:    {0, 1, 4, 8},
		{Num: 1, Den: 3}:    {0, 1, 2, 4, 8},
		{Num: 3, Den: 2}:    {1, 4},
		{Num: 2, Den: 1}:    {4},
		{Num: 1000, Den: 1}: {4},
		{Num: 1, Den: 1000}: {0, 1, 2, 3, 4, 8},
	} {
		for _, x := range []api.Mesh{m, turned, opposite} {
			if got, e := mesh.Overhangs(x, slope); e != api.OK || !slices.Equal(got, want) {
				t.Error(slope, got, e)
			}
		}
	}
	if got, e := mesh.Overhangs(sheet(3, 9), api.Fraction{Den: 1}); e != api.OK || len(got) != 0 {
		t.Error(got, e)
	}
}

// P1.4: both |N.X| and |N.Y| count, and the greater one decides.
func TestOverhangsDirections(t *testing.T) {
	r := rand.New(rand.NewSource(6))
	for range 300 {
		m := random(r)
		for _, slope := range []api.Fraction{{Num: 0, Den: 1}, {Num: 1, Den: 1}, {Num: 1 + r.Intn(9), Den: 1}, {Num: 1, Den: 1 + r.Intn(9)}} {
			var want []int
			for i := range m.Faces {
				n, _ := mesh.Normal(m, i)
				steep := func(x int) bool { return -n.Z*slope.Den > x*slope.Num && -n.Z*slope.Den > -x*slope.Num }
				if n.Z < 0 && steep(n.X) && steep(n.Y) {
					want = append(want, i)
				}
			}
			if got, e := mesh.Overhangs(m, slope); e != api.OK || !slices.Equal(got, want) {
				t.Fatal(m, slope, got, want, e)
			}
		}
	}
}

// P1.4: the errors of a slope, and the greatest values that are compared.
func TestOverhangsErrors(t *testing.T) {
	for slope, want := range map[api.Fraction]api.Errno{
		{}:                            api.ErrForm,
		{Num: 1}:                      api.ErrForm,
		{Num: 1, Den: -1}:             api.ErrForm,
		{Num: 1, Den: least}:          api.ErrForm,
		{Num: 0, Den: 2}:              api.ErrForm,
		{Num: 2, Den: 2}:              api.ErrForm,
		{Num: 6, Den: 9}:              api.ErrForm,
		{Num: -2, Den: 4}:             api.ErrForm,
		{Num: least, Den: 2}:          api.ErrForm,
		{Num: 2000, Den: 2}:           api.ErrForm,
		{Num: 3, Den: 3000}:           api.ErrForm,
		{Num: greatest, Den: 7}:       api.ErrForm,
		{Num: greatest, Den: 1 << 62}: api.ErrArg,
		{Num: -1, Den: 1}:             api.ErrArg,
		{Num: -1, Den: 2}:             api.ErrArg,
		{Num: 1001, Den: 1}:           api.ErrArg,
		{Num: 1, Den: 1001}:           api.ErrArg,
		{Num: least, Den: 1}:          api.ErrArg,
		{Num: least, Den: 3}:          api.ErrArg,
		{Num: least, Den: greatest}:   api.ErrArg,
		{Num: greatest, Den: 2}:       api.ErrArg,
		{Num: 1, Den: greatest}:       api.ErrArg,
		{Num: 1000, Den: 999}:         api.OK,
		{Num: 999, Den: 1000}:         api.OK,
	} {
		got, e := mesh.Overhangs(tetra(), slope)
		if e != want || e != api.OK && len(got) != 0 {
			t.Error(slope, got, e)
		}
	}
	const far = api.MaxCoordinate
	m := api.Mesh{Vertices: []api.Vec{{X: -far, Y: -far}, {X: -far, Y: far}, {X: far, Y: -far}}, Faces: []api.Face{{A: 0, B: 1, C: 2}}}
	if got, e := mesh.Overhangs(m, api.Fraction{Num: 999, Den: 1000}); e != api.OK || !slices.Equal(got, []int{0}) {
		t.Error(got, e)
	}
}

// P1.4: faces with a vertex below a height, and one at it or above.
func TestCrossing(t *testing.T) {
	const far = api.MaxCoordinate
	m := api.Mesh{
		Vertices: []api.Vec{{X: 1}, {Y: 1}, {X: 2, Y: 5}, {X: 7, Y: 3, Z: 4}, {X: 5, Y: 9, Z: 4}, {X: 4, Y: 4, Z: 8}, {X: 3, Z: -4}, {X: 9, Z: 4}, {X: 8, Y: 1, Z: 4}},
		Faces:    []api.Face{{A: 0, B: 1, C: 2}, {A: 1, B: 0, C: 3}, {A: 3, B: 0, C: 4}, {A: 3, B: 4, C: 5}, {A: 6, B: 5, C: 2}, {A: 7, B: 8, C: 3}},
	}
	for z, want := range map[int][]int{
		-far: nil, -4: nil, -3: {4}, 0: {4}, 1: {1, 2, 4}, 4: {1, 2, 4}, 5: {3, 4}, 8: {3, 4}, 9: nil, far: nil,
	} {
		if got, e := mesh.Crossing(m, z); e != api.OK || !slices.Equal(got, want) {
			t.Error(z, got, e)
		}
	}
	for _, z := range []int{least, -far - 1, far + 1, greatest} {
		if got, e := mesh.Crossing(m, z); e != api.ErrArg || len(got) != 0 {
			t.Error(z, got, e)
		}
	}
}

// P1.4: it does not matter which corner is below.
func TestCrossingCorners(t *testing.T) {
	m := api.Mesh{Vertices: []api.Vec{{}, {X: 6}, {Y: 6}}, Faces: []api.Face{{A: 0, B: 1, C: 2}}}
	for corner := range 3 {
		for _, c := range []struct{ height, z, faces int }{{5, 5, 1}, {5, 6, 0}, {5, 1, 1}, {5, 0, 0}, {-5, 0, 1}, {-5, 1, 0}, {-5, -4, 1}, {-5, -5, 0}} {
			x := copied(m)
			x.Vertices[corner].Z = c.height
			if got, e := mesh.Crossing(x, c.z); e != api.OK || len(got) != c.faces {
				t.Error(corner, c, got, e)
			}
		}
	}
}
