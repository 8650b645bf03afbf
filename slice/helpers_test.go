package slice_test

import (
	"math/rand"
	"reflect"
	"slices"

	"beadlayer/api"
	"beadlayer/mesh"
	"beadlayer/slice"
)

const (
	least    = -1 << 63
	greatest = 1<<63 - 1
	far      = api.MaxCoordinate
)

func side(from, to int) api.Side { return api.Side{From: from, To: to} }

func vec(x, y, z int) api.Vec { return api.Vec{X: x, Y: y, Z: z} }

func face(a, b, c int) api.Face { return api.Face{A: a, B: b, C: c} }

// ring has the corners that are told as X, Y, X, Y ..
func ring(n ...int) api.Ring {
	var r api.Ring
	for i := 0; i < len(n); i += 2 {
		r = append(r, api.Point{X: n[i], Y: n[i+1]})
	}
	return r
}

// tetra is the document's example.
func tetra() api.Mesh {
	return api.Mesh{
		Vertices: []api.Vec{vec(0, 0, 0), vec(6, 0, 0), vec(0, 6, 0), vec(0, 0, 6)},
		Faces:    []api.Face{face(0, 2, 1), face(0, 1, 3), face(1, 2, 3), face(0, 3, 2)},
	}
}

// block is closed; its lower vertices are 0 to 3, its upper ones 4 to 7.
func block(low, high api.Vec) api.Mesh {
	var m api.Mesh
	for _, z := range []int{low.Z, high.Z} {
		m.Vertices = append(m.Vertices, vec(low.X, low.Y, z), vec(high.X, low.Y, z), vec(high.X, high.Y, z), vec(low.X, high.Y, z))
	}
	m.Faces = []api.Face{face(0, 2, 1), face(0, 3, 2), face(4, 5, 6), face(4, 6, 7)}
	for i := range 4 {
		next := (i + 1) % 4
		m.Faces = append(m.Faces, face(i, next, 4+next), face(i, 4+next, 4+i))
	}
	return m
}

// both is a mesh with the vertices and faces of all.
func both(all ...api.Mesh) api.Mesh {
	var m api.Mesh
	for _, next := range all {
		shift := len(m.Vertices)
		m.Vertices = append(m.Vertices, next.Vertices...)
		for _, f := range next.Faces {
			m.Faces = append(m.Faces, face(f.A+shift, f.B+shift, f.C+shift))
		}
	}
	return m
}

// flipped has its inside where its outside was.
func flipped(m api.Mesh) api.Mesh {
	for i, f := range m.Faces {
		m.Faces[i] = face(f.A, f.C, f.B)
	}
	return m
}

// cone has no base, and leads from a ring with doubled coordinates at the height 0 to its tip at 0, 0, 2: at the height 1 its contour is closed, and has half of them, in this order.
func cone(doubled api.Ring) api.Mesh {
	var m api.Mesh
	for i, p := range doubled {
		m.Vertices = append(m.Vertices, vec(p.X, p.Y, 0))
		m.Faces = append(m.Faces, face(i, (i+1)%len(doubled), len(doubled)))
	}
	m.Vertices = append(m.Vertices, vec(0, 0, 2))
	return m
}

// cones has a closed contour with these corners for each ring at the height 1.
func cones(rings ...api.Ring) api.Mesh {
	var all []api.Mesh
	for _, r := range rings {
		var doubled api.Ring
		for _, p := range r {
			doubled = append(doubled, api.Point{X: 2 * p.X, Y: 2 * p.Y})
		}
		all = append(all, cone(doubled))
	}
	return both(all...)
}

// squares has many squares in a row.
func squares(n int) []api.Ring {
	var rings []api.Ring
	for i := range n {
		rings = append(rings, ring(10*i, 0, 10*i+5, 0, 10*i+5, 5, 10*i, 5))
	}
	return rings
}

// comb has any even number of corners from 4 on, and no two at one place.
func comb(corners int) api.Ring {
	var r api.Ring
	for i := range corners / 2 {
		r = append(r, api.Point{X: 2 * i, Y: 10 * (i % 2)})
	}
	for i := corners/2 - 1; i >= 0; i-- {
		r = append(r, api.Point{X: 2 * i, Y: 10*(i%2) + 5})
	}
	return r
}

// random is a valid mesh, open in most cases, with some vertices that no face has.
func random(r *rand.Rand) api.Mesh {
	for {
		var m api.Mesh
		wide := 3 + r.Intn(20)
		for range 3 + r.Intn(9) {
			m.Vertices = append(m.Vertices, vec(r.Intn(wide)-wide/2, r.Intn(wide)-wide/2, r.Intn(7)-3))
		}
		for range 1 + r.Intn(20) {
			m.Faces = append(m.Faces, face(r.Intn(len(m.Vertices)), r.Intn(len(m.Vertices)), r.Intn(len(m.Vertices))))
			if mesh.CheckMesh(m) != api.OK {
				m.Faces = m.Faces[:len(m.Faces)-1]
			}
		}
		if mesh.CheckMesh(m) == api.OK {
			return m
		}
	}
}

// ball is closed: a tetrahedron whose faces are divided at random places, in any order.
func ball(r *rand.Rand, wide int) api.Mesh {
	for {
		m := tetra()
		for i := range m.Vertices {
			m.Vertices[i] = vec(r.Intn(wide)-wide/2, r.Intn(wide)-wide/2, r.Intn(wide)-wide/2)
		}
		for range r.Intn(10) {
			i, n := r.Intn(len(m.Faces)), len(m.Vertices)
			f := m.Faces[i]
			m.Vertices = append(m.Vertices, vec(r.Intn(wide)-wide/2, r.Intn(wide)-wide/2, r.Intn(wide)-wide/2))
			m.Faces[i] = face(f.A, f.B, n)
			m.Faces = append(m.Faces, face(f.B, f.C, n), face(f.C, f.A, n))
		}
		r.Shuffle(len(m.Faces), func(i, k int) { m.Faces[i], m.Faces[k] = m.Faces[k], m.Faces[i] })
		if mesh.CheckMesh(m) == api.OK {
			return m
		}
	}
}

func copied(m api.Mesh) api.Mesh {
	return api.Mesh{Vertices: slices.Clone(m.Vertices), Faces: slices.Clone(m.Faces)}
}

func same(a, b api.Mesh) bool {
	return slices.Equal(a.Vertices, b.Vertices) && slices.Equal(a.Faces, b.Faces)
}

// equal compares two results: an empty list and none are the same.
func equal(a, b any) bool {
	x, y := reflect.ValueOf(a), reflect.ValueOf(b)
	if x.Kind() == reflect.Slice && x.Len() == 0 && y.Len() == 0 {
		return true
	}
	return reflect.DeepEqual(a, b)
}

func isZero(value any) bool {
	v := reflect.ValueOf(value)
	if v.Kind() == reflect.Slice {
		return v.Len() == 0
	}
	return v.IsZero()
}

// call is a function of the package, with all arguments but the mesh.
type call struct {
	name string
	run  func(api.Mesh) ([]any, api.Errno)
}

// atHeight are all functions with a height.
func atHeight(z int) []call {
	return []call{
		{"Cuts", func(m api.Mesh) ([]any, api.Errno) { l, e := slice.Cuts(m, z); return []any{l}, e }},
		{"Segments", func(m api.Mesh) ([]any, api.Errno) { l, e := slice.Segments(m, z); return []any{l}, e }},
		{"Contours", func(m api.Mesh) ([]any, api.Errno) { l, c, e := slice.Contours(m, z); return []any{l, c}, e }},
		{"Ends", func(m api.Mesh) ([]any, api.Errno) { l, e := slice.Ends(m, z); return []any{l}, e }},
		{"Alike low", func(m api.Mesh) ([]any, api.Errno) { ok, e := slice.Alike(m, z, 1); return []any{ok}, e }},
		{"Alike high", func(m api.Mesh) ([]any, api.Errno) { ok, e := slice.Alike(m, 1, z); return []any{ok}, e }},
		{"Rings", func(m api.Mesh) ([]any, api.Errno) { l, e := slice.Rings(m, z); return []any{l}, e }},
		{"Doubled", func(m api.Mesh) ([]any, api.Errno) { a, n, e := slice.Doubled(m, z); return []any{a, n}, e }},
		{"Layers", func(m api.Mesh) ([]any, api.Errno) { l, e := slice.Layers(m, []int{z}, 2); return []any{l}, e }},
	}
}

// withThickness are all functions with thicknesses of layers, and Levels.
func withThickness(a, b, c int) []call {
	return []call{
		{"Heights", func(m api.Mesh) ([]any, api.Errno) { l, e := slice.Heights(m, a, b); return []any{l}, e }},
		{"Levels", func(m api.Mesh) ([]any, api.Errno) { l, e := slice.Levels(m); return []any{l}, e }},
		{"Adaptive", func(m api.Mesh) ([]any, api.Errno) { l, e := slice.Adaptive(m, a, b, c); return []any{l}, e }},
	}
}
