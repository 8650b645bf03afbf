package mesh_test

import (
	"testing"

	"beadlayer/api"
	"beadlayer/mesh"
)

type checked struct {
	name string
	m    api.Mesh
	e    api.Errno
}

// changed is the example with a change.
func changed(change func(m *api.Mesh)) api.Mesh {
	m := tetra()
	change(&m)
	return m
}

// wrongMeshes have each error of CheckMesh, alone, and before those that come after it.
func wrongMeshes() []checked {
	far := api.MaxCoordinate + 1
	vertex := func(i int, v api.Vec) api.Mesh { return changed(func(m *api.Mesh) { m.Vertices[i] = v }) }
	face := func(i int, f api.Face) api.Mesh { return changed(func(m *api.Mesh) { m.Faces[i] = f }) }
	many := sheet(10, 100)
	for len(many.Vertices) <= api.MaxVertices {
		many.Vertices = append(many.Vertices, api.Vec{})
	}
	farAndMany := copied(many)
	farAndMany.Vertices[0].X = far
	line := vertex(2, api.Vec{X: 12})
	twice := face(3, api.Face{A: 0, B: 2, C: 3})
	lineBeforeNone := copied(line)
	lineBeforeNone.Faces[3].C = 4
	noneBeforeLine := copied(line)
	noneBeforeLine.Vertices[0], noneBeforeLine.Faces[0] = api.Vec{X: 1}, api.Face{A: 0, B: 1, C: 4}
	noneAndLine := face(1, api.Face{A: 1, B: 1, C: 4})
	twiceAndLine := copied(twice)
	twiceAndLine.Faces = append(twiceAndLine.Faces, api.Face{A: 1, B: 1, C: 1})
	farAndNone := face(0, api.Face{A: -1, B: 2, C: 1})
	farAndNone.Vertices[3].Z = -far
	return []checked{
		{"empty", api.Mesh{}, api.ErrNone},
		{"no faces", api.Mesh{Vertices: tetra().Vertices, Faces: []api.Face{}}, api.ErrNone},
		{"no faces, many vertices", api.Mesh{Vertices: many.Vertices}, api.ErrNone},
		{"no vertices", api.Mesh{Faces: tetra().Faces}, api.ErrNone},
		{"many vertices", many, api.ErrLarge},
		{"many vertices, far", farAndMany, api.ErrLarge},
		{"many faces", sheet(25, api.MaxFaces+1), api.ErrLarge},
		{"X far", vertex(0, api.Vec{X: far}), api.ErrArg},
		{"X far below", vertex(1, api.Vec{X: -far}), api.ErrArg},
		{"Y far", vertex(2, api.Vec{Y: far}), api.ErrArg},
		{"Y far below", vertex(3, api.Vec{Y: -far}), api.ErrArg},
		{"Z far", vertex(3, api.Vec{Z: far}), api.ErrArg},
		{"Z far below", vertex(3, api.Vec{Z: -far}), api.ErrArg},
		{"least", vertex(3, api.Vec{Z: least}), api.ErrArg},
		{"greatest", vertex(3, api.Vec{X: greatest}), api.ErrArg},
		{"far vertex of no face", changed(func(m *api.Mesh) { m.Vertices = append(m.Vertices, api.Vec{X: far}) }), api.ErrArg},
		{"far, no such vertex", farAndNone, api.ErrArg},
		{"A below", face(0, api.Face{A: -1, B: 2, C: 1}), api.ErrNone},
		{"A above", face(3, api.Face{A: 4, B: 3, C: 2}), api.ErrNone},
		{"B below", face(1, api.Face{A: 0, B: least, C: 3}), api.ErrNone},
		{"B above", face(1, api.Face{A: 0, B: greatest, C: 3}), api.ErrNone},
		{"C below", face(2, api.Face{A: 1, B: 2, C: -1}), api.ErrNone},
		{"C above", face(2, api.Face{A: 1, B: 2, C: 4}), api.ErrNone},
		{"A is B", face(1, api.Face{A: 1, B: 1, C: 3}), api.ErrForm},
		{"B is C", face(1, api.Face{A: 0, B: 3, C: 3}), api.ErrForm},
		{"C is A", face(1, api.Face{A: 3, B: 1, C: 3}), api.ErrForm},
		{"on a line", line, api.ErrForm},
		{"at one place", vertex(2, api.Vec{X: 6}), api.ErrForm},
		{"same corners, no such vertex", noneAndLine, api.ErrNone},
		{"line before no such vertex", lineBeforeNone, api.ErrForm},
		{"no such vertex before line", noneBeforeLine, api.ErrNone},
		{"side twice", twice, api.ErrTwice},
		{"side twice before same corners", twiceAndLine, api.ErrForm},
		{"face twice", changed(func(m *api.Mesh) { m.Faces = append(m.Faces, api.Face{A: 2, B: 1, C: 0}) }), api.ErrTwice},
	}
}

// P1.1: all errors of CheckMesh, and their order.
func TestCheckMesh(t *testing.T) {
	for _, c := range wrongMeshes() {
		if e := mesh.CheckMesh(c.m); e != c.e {
			t.Errorf("%s: %v, not %v", c.name, e, c.e)
		}
	}
}

// P1.1: values at the bounds are valid.
func TestCheckMeshBounds(t *testing.T) {
	const far = api.MaxCoordinate
	atBounds := tetra()
	atBounds.Vertices = []api.Vec{{X: -far, Y: -far, Z: -far}, {X: far, Y: -far, Z: -far}, {X: -far, Y: far, Z: -far}, {X: -far, Y: -far, Z: far}}
	unused := tetra()
	unused.Vertices = append(unused.Vertices, api.Vec{X: 1}, api.Vec{X: 1})
	for name, m := range map[string]api.Mesh{
		"example":         tetra(),
		"open":            open(),
		"one face":        {Vertices: tetra().Vertices[:3], Faces: []api.Face{{A: 0, B: 1, C: 2}}},
		"both directions": {Vertices: tetra().Vertices[:3], Faces: []api.Face{{A: 0, B: 1, C: 2}, {A: 0, B: 2, C: 1}}},
		"at bounds":       atBounds,
		"unused vertices": unused,
		"most vertices":   tetras(api.MaxVertices / 4),
		"most faces":      sheet(25, api.MaxFaces),
		"nearly a line":   {Vertices: []api.Vec{{X: -far}, {X: far}, {X: 0, Y: 1}}, Faces: []api.Face{{A: 0, B: 1, C: 2}}},
	} {
		if e := mesh.CheckMesh(m); e != api.OK {
			t.Errorf("%s: %v", name, e)
		}
	}
}

// P1.1: functions with a mesh first return CheckMesh's error, before their own; with it, all results are zero (Z3).
func TestMeshErrorsFirst(t *testing.T) {
	for _, c := range wrongMeshes() {
		for _, f := range append(goodCalls(), badCalls()...) {
			results, e := f.run(copied(c.m))
			if e != c.e {
				t.Errorf("%s, %s: %v, not %v", f.name, c.name, e, c.e)
			}
			for _, r := range results {
				if !isZero(r) {
					t.Errorf("%s, %s: result %v", f.name, c.name, r)
				}
			}
		}
	}
}
