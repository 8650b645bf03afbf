package mesh_test

import (
	"math/rand"
	"reflect"
	"slices"
	"testing"

	"beadlayer/api"
	"beadlayer/mesh"
)

// P1.2: the sides without a face in the other direction, by From, then To.
func TestOpen(t *testing.T) {
	backwards := open()
	slices.Reverse(backwards.Faces)
	for name, c := range map[string]struct {
		m    api.Mesh
		open []api.Side
	}{
		"closed":          {tetra(), nil},
		"open":            {open(), []api.Side{{From: 0, To: 2}, {From: 2, To: 3}, {From: 3, To: 0}}},
		"other order":     {backwards, []api.Side{{From: 0, To: 2}, {From: 2, To: 3}, {From: 3, To: 0}}},
		"one face":        {api.Mesh{Vertices: tetra().Vertices, Faces: tetra().Faces[2:3]}, []api.Side{{From: 1, To: 2}, {From: 2, To: 3}, {From: 3, To: 1}}},
		"two faces":       {api.Mesh{Vertices: tetra().Vertices, Faces: tetra().Faces[:2]}, []api.Side{{From: 0, To: 2}, {From: 1, To: 3}, {From: 2, To: 1}, {From: 3, To: 0}}},
		"both directions": {api.Mesh{Vertices: tetra().Vertices, Faces: []api.Face{{A: 0, B: 1, C: 2}, {A: 1, B: 0, C: 2}}}, nil},
		"fan":             {api.Mesh{Vertices: append(tetra().Vertices, api.Vec{X: 9, Y: 9, Z: 1}), Faces: []api.Face{{A: 0, B: 2, C: 1}, {A: 0, B: 4, C: 3}}}, []api.Side{{From: 0, To: 2}, {From: 0, To: 4}, {From: 1, To: 0}, {From: 2, To: 1}, {From: 3, To: 0}, {From: 4, To: 3}}},
	} {
		if got, e := mesh.Open(c.m); e != api.OK || !slices.Equal(got, c.open) {
			t.Error(name, got, e)
		}
	}
}

func sidesOf(f api.Face) []api.Side {
	return []api.Side{{From: f.A, To: f.B}, {From: f.B, To: f.C}, {From: f.C, To: f.A}}
}

// P1.2: Open, against a search through all pairs of faces.
func TestOpenRandom(t *testing.T) {
	r := rand.New(rand.NewSource(1))
	for range 300 {
		m := random(r)
		var want []api.Side
		for from := range m.Vertices {
			for to := range m.Vertices {
				there, back := false, false
				for _, f := range m.Faces {
					there = there || slices.Contains(sidesOf(f), api.Side{From: from, To: to})
					back = back || slices.Contains(sidesOf(f), api.Side{From: to, To: from})
				}
				if there && !back {
					want = append(want, api.Side{From: from, To: to})
				}
			}
		}
		if got, e := mesh.Open(m); e != api.OK || !slices.Equal(got, want) {
			t.Fatal(m, got, want, e)
		}
	}
}

// P1.2: the box of the vertices that faces have, and only of these.
func TestBox(t *testing.T) {
	m := box(api.Vec{X: -5, Y: 7, Z: -9}, api.Vec{X: 2, Y: 3, Z: 4})
	m.Vertices = append(m.Vertices, api.Vec{X: -99, Y: -99, Z: -99}, api.Vec{X: 99, Y: 99, Z: 99})
	low, high, e := mesh.Box(m)
	if e != api.OK || low != (api.Vec{X: -5, Y: 7, Z: -9}) || high != (api.Vec{X: -3, Y: 10, Z: -5}) {
		t.Error(low, high, e)
	}
	one := api.Mesh{Vertices: []api.Vec{{X: 0, Y: 0, Z: 0}, {X: 3, Y: 9, Z: -1}, {X: 2, Y: -4, Z: 8}, {X: 7, Y: 5, Z: 6}}, Faces: []api.Face{{A: 1, B: 2, C: 3}}}
	low, high, e = mesh.Box(one)
	if e != api.OK || low != (api.Vec{X: 2, Y: -4, Z: -1}) || high != (api.Vec{X: 7, Y: 9, Z: 8}) {
		t.Error(low, high, e)
	}
}

// P1.2: Box, against each coordinate alone.
func TestBoxRandom(t *testing.T) {
	r := rand.New(rand.NewSource(13))
	for range 300 {
		m := random(r)
		var x, y, z []int
		for _, f := range m.Faces {
			for _, i := range []int{f.A, f.B, f.C} {
				v := m.Vertices[i]
				x, y, z = append(x, v.X), append(y, v.Y), append(z, v.Z)
			}
		}
		low, high, e := mesh.Box(m)
		if e != api.OK || low != (api.Vec{X: slices.Min(x), Y: slices.Min(y), Z: slices.Min(z)}) || high != (api.Vec{X: slices.Max(x), Y: slices.Max(y), Z: slices.Max(z)}) {
			t.Fatal(m, low, high, e)
		}
	}
}

// P1.2: (B - A) × (C - A).
func TestNormal(t *testing.T) {
	const far = api.MaxCoordinate
	m := tetra()
	for i, want := range []api.Vec{{Z: -36}, {Y: -36}, {X: 36, Y: 36, Z: 36}, {X: -36}} {
		if n, e := mesh.Normal(m, i); e != api.OK || n != want {
			t.Error(i, n, e)
		}
	}
	for _, i := range []int{least, -1, 4, greatest} {
		if n, e := mesh.Normal(m, i); e != api.ErrNone || n != (api.Vec{}) {
			t.Error(i, n, e)
		}
	}
	m = api.Mesh{Vertices: []api.Vec{{X: 1, Y: 2, Z: 3}, {X: 5, Y: 4, Z: 10}, {X: -2, Y: 8, Z: 5}}, Faces: []api.Face{{A: 0, B: 1, C: 2}}}
	if n, e := mesh.Normal(m, 0); e != api.OK || n != (api.Vec{X: -38, Y: -29, Z: 30}) {
		t.Error(n, e)
	}
	m.Vertices = []api.Vec{{X: -far, Y: -far}, {X: far, Y: -far}, {X: -far, Y: far}}
	if n, e := mesh.Normal(m, 0); e != api.OK || n != (api.Vec{Z: 4 * far * far}) {
		t.Error(n, e)
	}
}

// P1.2: six times the volume, exactly; negative if the faces are seen from inside.
func TestVolume(t *testing.T) {
	const far = api.MaxCoordinate
	inside := tetra()
	for i, f := range inside.Faces {
		inside.Faces[i] = api.Face{A: f.B, B: f.A, C: f.C}
	}
	flat := api.Mesh{Vertices: tetra().Vertices, Faces: []api.Face{{A: 1, B: 2, C: 3}, {A: 2, B: 1, C: 3}}}
	for name, c := range map[string]struct {
		m    api.Mesh
		want int
	}{
		"example": {tetra(), 216},
		"inside":  {inside, -216},
		"flat":    {flat, 0},
		"box":     {box(api.Vec{X: -7, Y: 3, Z: 11}, api.Vec{X: 2, Y: 3, Z: 5}), 6 * 30},
		"largest": {box(api.Vec{X: -far, Y: -far, Z: -far}, api.Vec{X: 2 * far, Y: 2 * far, Z: 2 * far}), 48 * far * far * far},
		"many":    {tetras(250), 250 * 216},
	} {
		if n, e := mesh.Volume(c.m); e != api.OK || n != c.want {
			t.Error(name, n, e)
		}
	}
	for name, m := range map[string]api.Mesh{"open": open(), "one face": sheet(1, 1), "sheet": sheet(10, 200)} {
		if n, e := mesh.Volume(m); e != api.ErrState || n != 0 {
			t.Error(name, n, e)
		}
		if l, e := mesh.Volumes(m); e != api.ErrState || len(l) != 0 {
			t.Error(name, l, e)
		}
	}
}

// P1.2: the sum of very many greatest parts is an int, too.
func TestVolumeOfMany(t *testing.T) {
	const far = api.MaxCoordinate
	var m api.Mesh
	for i := range 80 {
		one := box(api.Vec{X: -far, Y: -far, Z: -far}, api.Vec{X: 2 * far, Y: 2 * far, Z: 2 * far})
		m.Vertices = append(m.Vertices, one.Vertices...)
		for _, f := range one.Faces {
			m.Faces = append(m.Faces, api.Face{A: f.A + 8*i, B: f.B + 8*i, C: f.C + 8*i})
		}
	}
	if n, e := mesh.Volume(m); e != api.OK || n != 80*48*far*far*far {
		t.Error(n, e)
	}
}

// P1.2: groups of faces with two vertices in common, or by way of others, by their first faces.
func TestShells(t *testing.T) {
	mixed := tetras(2)
	mixed.Faces = []api.Face{mixed.Faces[5], mixed.Faces[1], mixed.Faces[4], mixed.Faces[7], mixed.Faces[0], mixed.Faces[3]}
	corner := api.Mesh{Vertices: append(tetra().Vertices, api.Vec{X: -5, Y: 1}, api.Vec{X: -5, Y: 9}), Faces: []api.Face{{A: 0, B: 1, C: 2}, {A: 0, B: 4, C: 5}}}
	for name, c := range map[string]struct {
		m    api.Mesh
		want [][]int
	}{
		"closed":             {tetra(), [][]int{{0, 1, 2, 3}}},
		"open":               {open(), [][]int{{0, 1, 2}}},
		"mixed":              {mixed, [][]int{{0, 2, 3}, {1, 4, 5}}},
		"one corner":         {corner, [][]int{{0}, {1}}},
		"the same three":     {api.Mesh{Vertices: tetra().Vertices, Faces: []api.Face{{A: 0, B: 1, C: 2}, {A: 2, B: 1, C: 0}}}, [][]int{{0, 1}}},
		"places, not shared": {joined(t, tetra(), tetra()), [][]int{{0, 1, 2, 3}, {4, 5, 6, 7}}},
	} {
		if got, e := mesh.Shells(c.m); e != api.OK || !reflect.DeepEqual(got, c.want) {
			t.Error(name, got, e)
		}
	}
	if got, e := mesh.Shells(sheet(25, 1000)); e != api.OK || len(got) != 1 || len(got[0]) != 1000 {
		t.Error(got, e)
	}
}

func common(a, b api.Face) int {
	n := 0
	for _, i := range []int{a.A, a.B, a.C} {
		if i == b.A || i == b.B || i == b.C {
			n++
		}
	}
	return n
}

// shellsByPairs gives all faces of a shell the number of the first one, by comparing all pairs until nothing changes.
func shellsByPairs(faces []api.Face) [][]int {
	number := make([]int, len(faces))
	for i := range number {
		number[i] = i
	}
	for again := true; again; {
		again = false
		for i, f := range faces {
			for k, g := range faces {
				if common(f, g) >= 2 && number[k] < number[i] {
					number[i], again = number[k], true
				}
			}
		}
	}
	var groups [][]int
	for first := range faces {
		var group []int
		for i, n := range number {
			if n == first {
				group = append(group, i)
			}
		}
		if len(group) > 0 {
			groups = append(groups, group)
		}
	}
	return groups
}

// P1.2: Shells, against a search through all pairs of faces.
func TestShellsRandom(t *testing.T) {
	r := rand.New(rand.NewSource(2))
	for range 300 {
		for _, m := range []api.Mesh{random(r), solid(r)} {
			got, e := mesh.Shells(m)
			if want := shellsByPairs(m.Faces); e != api.OK || !reflect.DeepEqual(got, want) {
				t.Fatal(m, got, want, e)
			}
		}
	}
}

// P1.2: the volume of each shell; what follows: they add up to that of the mesh.
func TestVolumes(t *testing.T) {
	m := joined(t, box(api.Vec{X: 3}, api.Vec{X: 1, Y: 2, Z: 3}), tetra(), box(api.Vec{}, api.Vec{X: 1, Y: 1, Z: 1}))
	if l, e := mesh.Volumes(m); e != api.OK || !slices.Equal(l, []int{36, 216, 6}) {
		t.Error(l, e)
	}
	r := rand.New(rand.NewSource(3))
	for range 100 {
		m := solid(r)
		whole, e1 := mesh.Volume(m)
		parts, e2 := mesh.Volumes(m)
		shells, e3 := mesh.Shells(m)
		if e1 != api.OK || e2 != api.OK || e3 != api.OK || len(parts) != len(shells) {
			t.Fatal(e1, e2, e3, parts, shells)
		}
		for i, shell := range shells {
			part, _ := mesh.Part(m, shell)
			if n, e := mesh.Volume(part); e != api.OK || n != parts[i] {
				t.Fatal(m, shell, n, parts[i], e)
			}
			whole -= parts[i]
		}
		if whole != 0 {
			t.Fatal(m, whole)
		}
	}
}
