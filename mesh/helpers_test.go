package mesh_test

import (
	"math/rand"
	"reflect"
	"slices"
	"testing"

	"beadlayer/api"
	"beadlayer/mesh"
)

const (
	least    = -1 << 63
	greatest = 1<<63 - 1
)

// tetra is the document's example: closed, with six times the volume 216.
func tetra() api.Mesh {
	return api.Mesh{
		Vertices: []api.Vec{{}, {X: 6}, {Y: 6}, {Z: 6}},
		Faces:    []api.Face{{A: 0, B: 2, C: 1}, {A: 0, B: 1, C: 3}, {A: 1, B: 2, C: 3}, {A: 0, B: 3, C: 2}},
	}
}

// open is the example without its last face.
func open() api.Mesh {
	m := tetra()
	m.Faces = m.Faces[:3]
	return m
}

// box is closed; its corner low has the least coordinates.
func box(low, size api.Vec) api.Mesh {
	var m api.Mesh
	for i := range 8 {
		m.Vertices = append(m.Vertices, api.Vec{X: low.X + i%2*size.X, Y: low.Y + i/2%2*size.Y, Z: low.Z + i/4*size.Z})
	}
	for _, q := range [][4]int{{0, 2, 3, 1}, {4, 5, 7, 6}, {0, 1, 5, 4}, {2, 6, 7, 3}, {0, 4, 6, 2}, {1, 3, 7, 5}} {
		m.Faces = append(m.Faces, api.Face{A: q[0], B: q[1], C: q[2]}, api.Face{A: q[0], B: q[2], C: q[3]})
	}
	return m
}

// sheet has faces in a plane that is high above 0, with their tips up.
func sheet(columns, faces int) api.Mesh {
	var m api.Mesh
	at := func(column, row int) int { return row*(columns+1) + column }
	rows := (faces + 2*columns - 1) / (2 * columns)
	for row := range rows + 1 {
		for column := range columns + 1 {
			m.Vertices = append(m.Vertices, api.Vec{X: 10 * column, Y: 10 * row, Z: 50})
		}
	}
	for i := range faces {
		column, row := i/2%columns, i/2/columns
		f := api.Face{A: at(column, row), B: at(column+1, row), C: at(column+1, row+1)}
		if i%2 == 1 {
			f = api.Face{A: at(column, row), B: at(column+1, row+1), C: at(column, row+1)}
		}
		m.Faces = append(m.Faces, f)
	}
	return m
}

func joined(t *testing.T, all ...api.Mesh) api.Mesh {
	t.Helper()
	m := all[0]
	for _, next := range all[1:] {
		sum, e := mesh.Joined(m, next)
		if e != api.OK {
			t.Fatal(e)
		}
		m = sum
	}
	return m
}

// tetras has many tetrahedra that share no vertices.
func tetras(n int) api.Mesh {
	var m api.Mesh
	for i := range n {
		one, shift := tetra(), len(m.Vertices)
		for _, v := range one.Vertices {
			m.Vertices = append(m.Vertices, api.Vec{X: v.X + 10*i, Y: v.Y, Z: v.Z})
		}
		for _, f := range one.Faces {
			m.Faces = append(m.Faces, api.Face{A: f.A + shift, B: f.B + shift, C: f.C + shift})
		}
	}
	return m
}

// random is a valid mesh, open in most cases, with some vertices that no face has, and some that are at one place.
func random(r *rand.Rand) api.Mesh {
	for {
		var m api.Mesh
		for range 3 + r.Intn(8) {
			m.Vertices = append(m.Vertices, api.Vec{X: r.Intn(7) - 3, Y: r.Intn(7) - 3, Z: r.Intn(7) - 3})
		}
		for range 1 + r.Intn(12) {
			m.Faces = append(m.Faces, api.Face{A: r.Intn(len(m.Vertices)), B: r.Intn(len(m.Vertices)), C: r.Intn(len(m.Vertices))})
			if mesh.CheckMesh(m) != api.OK {
				m.Faces = m.Faces[:len(m.Faces)-1]
			}
		}
		if mesh.CheckMesh(m) == api.OK {
			return m
		}
	}
}

// solid is a closed mesh of some boxes and tetrahedra, turned, mirrored and in another order of faces.
func solid(r *rand.Rand) api.Mesh {
	var all api.Mesh
	for range 1 + r.Intn(4) {
		one := box(api.Vec{X: r.Intn(99), Y: r.Intn(99), Z: r.Intn(99)}, api.Vec{X: 1 + r.Intn(9), Y: 1 + r.Intn(9), Z: 1 + r.Intn(9)})
		if r.Intn(2) == 0 {
			one = tetra()
		}
		if r.Intn(2) == 0 {
			one, _ = mesh.Mirrored(one, r.Intn(3))
		}
		shift := len(all.Vertices)
		all.Vertices = append(all.Vertices, one.Vertices...)
		for _, f := range one.Faces {
			all.Faces = append(all.Faces, api.Face{A: f.A + shift, B: f.B + shift, C: f.C + shift})
		}
	}
	r.Shuffle(len(all.Faces), func(i, k int) { all.Faces[i], all.Faces[k] = all.Faces[k], all.Faces[i] })
	return all
}

func same(a, b api.Mesh) bool {
	return slices.Equal(a.Vertices, b.Vertices) && slices.Equal(a.Faces, b.Faces)
}

func copied(m api.Mesh) api.Mesh {
	return api.Mesh{Vertices: slices.Clone(m.Vertices), Faces: slices.Clone(m.Faces)}
}

func isZero(value any) bool {
	switch v := value.(type) {
	case api.Mesh:
		return len(v.Vertices) == 0 && len(v.Faces) == 0
	case []int, []api.Side, [][]int:
		return reflect.ValueOf(v).Len() == 0
	}
	return reflect.ValueOf(value).IsZero()
}

// call is a function of the package, with all arguments but the mesh.
type call struct {
	name string
	run  func(api.Mesh) ([]any, api.Errno)
}

// goodCalls are all functions with a mesh, with other arguments that are valid for a mesh with three faces.
func goodCalls() []call {
	return []call{
		{"CheckMesh", func(m api.Mesh) ([]any, api.Errno) { return nil, mesh.CheckMesh(m) }},
		{"Open", func(m api.Mesh) ([]any, api.Errno) { l, e := mesh.Open(m); return []any{l}, e }},
		{"Box", func(m api.Mesh) ([]any, api.Errno) { a, b, e := mesh.Box(m); return []any{a, b}, e }},
		{"Volume", func(m api.Mesh) ([]any, api.Errno) { n, e := mesh.Volume(m); return []any{n}, e }},
		{"Shells", func(m api.Mesh) ([]any, api.Errno) { l, e := mesh.Shells(m); return []any{l}, e }},
		{"Volumes", func(m api.Mesh) ([]any, api.Errno) { l, e := mesh.Volumes(m); return []any{l}, e }},
		{"Normal", func(m api.Mesh) ([]any, api.Errno) { v, e := mesh.Normal(m, 1); return []any{v}, e }},
		{"Turned", func(m api.Mesh) ([]any, api.Errno) { x, e := mesh.Turned(m, api.AxisY, 3); return []any{x}, e }},
		{"Moved", func(m api.Mesh) ([]any, api.Errno) {
			x, e := mesh.Moved(m, api.Vec{X: 1, Y: -2, Z: 3})
			return []any{x}, e
		}},
		{"Mirrored", func(m api.Mesh) ([]any, api.Errno) { x, e := mesh.Mirrored(m, api.AxisZ); return []any{x}, e }},
		{"Joined a", func(m api.Mesh) ([]any, api.Errno) { x, e := mesh.Joined(m, tetra()); return []any{x}, e }},
		{"Joined b", func(m api.Mesh) ([]any, api.Errno) { x, e := mesh.Joined(tetra(), m); return []any{x}, e }},
		{"Welded", func(m api.Mesh) ([]any, api.Errno) { x, e := mesh.Welded(m); return []any{x}, e }},
		{"Part", func(m api.Mesh) ([]any, api.Errno) { x, e := mesh.Part(m, []int{2, 0}); return []any{x}, e }},
		{"Overhangs", func(m api.Mesh) ([]any, api.Errno) {
			l, e := mesh.Overhangs(m, api.Fraction{Num: 1, Den: 2})
			return []any{l}, e
		}},
		{"Crossing", func(m api.Mesh) ([]any, api.Errno) { l, e := mesh.Crossing(m, 3); return []any{l}, e }},
		{"Text", func(m api.Mesh) ([]any, api.Errno) { s, e := mesh.Text(m); return []any{s}, e }},
	}
}

// badCalls have an error of their own, whatever the mesh is.
func badCalls() []call {
	far := api.Vec{X: greatest, Y: greatest, Z: greatest}
	return []call{
		{"Volume", func(m api.Mesh) ([]any, api.Errno) { n, e := mesh.Volume(m); return []any{n}, e }},
		{"Volumes", func(m api.Mesh) ([]any, api.Errno) { l, e := mesh.Volumes(m); return []any{l}, e }},
		{"Normal", func(m api.Mesh) ([]any, api.Errno) { v, e := mesh.Normal(m, -1); return []any{v}, e }},
		{"Turned axis", func(m api.Mesh) ([]any, api.Errno) { x, e := mesh.Turned(m, 3, 1); return []any{x}, e }},
		{"Turned quarters", func(m api.Mesh) ([]any, api.Errno) { x, e := mesh.Turned(m, 0, 4); return []any{x}, e }},
		{"Moved", func(m api.Mesh) ([]any, api.Errno) { x, e := mesh.Moved(m, far); return []any{x}, e }},
		{"Mirrored", func(m api.Mesh) ([]any, api.Errno) { x, e := mesh.Mirrored(m, -1); return []any{x}, e }},
		{"Joined", func(m api.Mesh) ([]any, api.Errno) { x, e := mesh.Joined(m, api.Mesh{}); return []any{x}, e }},
		{"Part none", func(m api.Mesh) ([]any, api.Errno) { x, e := mesh.Part(m, nil); return []any{x}, e }},
		{"Part twice", func(m api.Mesh) ([]any, api.Errno) { x, e := mesh.Part(m, []int{0, 0}); return []any{x}, e }},
		{"Overhangs", func(m api.Mesh) ([]any, api.Errno) {
			l, e := mesh.Overhangs(m, api.Fraction{})
			return []any{l}, e
		}},
		{"Crossing", func(m api.Mesh) ([]any, api.Errno) { l, e := mesh.Crossing(m, greatest); return []any{l}, e }},
	}
}
