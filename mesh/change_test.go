package mesh_test

import (
	"math/rand"
	"slices"
	"testing"

	"beadlayer/api"
	"beadlayer/mesh"
)

// P1.3: quarters of a turn about each axis.
func TestTurned(t *testing.T) {
	m := open()
	m.Vertices[1], m.Vertices[0] = api.Vec{X: 1, Y: 2, Z: 3}, api.Vec{X: -4, Y: 5, Z: -6}
	for axis, quarters := range [][]api.Vec{
		api.AxisX: {{X: 1, Y: 2, Z: 3}, {X: 1, Y: -3, Z: 2}, {X: 1, Y: -2, Z: -3}, {X: 1, Y: 3, Z: -2}},
		api.AxisY: {{X: 1, Y: 2, Z: 3}, {X: 3, Y: 2, Z: -1}, {X: -1, Y: 2, Z: -3}, {X: -3, Y: 2, Z: 1}},
		api.AxisZ: {{X: 1, Y: 2, Z: 3}, {X: -2, Y: 1, Z: 3}, {X: -1, Y: -2, Z: 3}, {X: 2, Y: -1, Z: 3}},
	} {
		for n, want := range quarters {
			got, e := mesh.Turned(m, axis, n)
			if e != api.OK || got.Vertices[1] != want || len(got.Vertices) != 4 || !slices.Equal(got.Faces, m.Faces) {
				t.Error(axis, n, got, e)
			}
		}
	}
	for _, c := range []struct {
		axis, quarters int
		e              api.Errno
	}{{-1, 0, api.ErrKind}, {3, 1, api.ErrKind}, {least, 1, api.ErrKind}, {greatest, 1, api.ErrKind}, {3, 4, api.ErrKind}, {0, -1, api.ErrArg}, {1, 4, api.ErrArg}, {2, least, api.ErrArg}, {2, greatest, api.ErrArg}} {
		if got, e := mesh.Turned(m, c.axis, c.quarters); e != c.e || !isZero(got) {
			t.Error(c, got, e)
		}
	}
}

// P1.3: a vector is added to all vertices, those of no face, too.
func TestMoved(t *testing.T) {
	m := open()
	m.Vertices = append(m.Vertices, api.Vec{X: 1, Y: 1, Z: 1})
	got, e := mesh.Moved(m, api.Vec{X: 10, Y: -20, Z: 30})
	want := []api.Vec{{X: 10, Y: -20, Z: 30}, {X: 16, Y: -20, Z: 30}, {X: 10, Y: -14, Z: 30}, {X: 10, Y: -20, Z: 36}, {X: 11, Y: -19, Z: 31}}
	if e != api.OK || !slices.Equal(got.Vertices, want) || !slices.Equal(got.Faces, m.Faces) {
		t.Error(got, e)
	}
	const far = api.MaxCoordinate
	for _, by := range []api.Vec{{X: far - 6}, {Y: far - 6}, {Z: far - 6}, {X: -far}, {Y: -far, Z: -far}} {
		if got, e := mesh.Moved(m, by); e != api.OK || got.Vertices[0] != by {
			t.Error(by, got, e)
		}
	}
	for _, by := range []api.Vec{{X: far - 5}, {Y: far - 5}, {Z: far - 5}, {X: -far - 1}, {Y: -far - 1}, {Z: -far - 1}, {X: greatest}, {Y: greatest}, {Z: greatest}, {X: least}, {Y: least}, {Z: least}, {X: greatest - far}} {
		if got, e := mesh.Moved(m, by); e != api.ErrArg || !isZero(got) {
			t.Error(by, got, e)
		}
	}
}

// P1.3: the widest move of a mesh from one bound to the other.
func TestMovedAcross(t *testing.T) {
	const far = api.MaxCoordinate
	m := api.Mesh{Vertices: []api.Vec{{X: -far, Z: -far}, {X: -far, Y: 1, Z: -far}, {X: -far, Z: 1 - far}}, Faces: []api.Face{{A: 0, B: 1, C: 2}}}
	got, e := mesh.Moved(m, api.Vec{X: 2 * far, Z: 2*far - 1})
	if e != api.OK || !slices.Equal(got.Vertices, []api.Vec{{X: far, Z: far - 1}, {X: far, Y: 1, Z: far - 1}, {X: far, Z: far}}) {
		t.Error(got, e)
	}
	if got, e := mesh.Moved(m, api.Vec{X: 2*far + 1}); e != api.ErrArg || !isZero(got) {
		t.Error(got, e)
	}
}

// P1.3: a coordinate is negated, and B and C are exchanged.
func TestMirrored(t *testing.T) {
	m := open()
	m.Vertices[1] = api.Vec{X: 1, Y: 2, Z: 3}
	for axis, want := range []api.Vec{api.AxisX: {X: -1, Y: 2, Z: 3}, api.AxisY: {X: 1, Y: -2, Z: 3}, api.AxisZ: {X: 1, Y: 2, Z: -3}} {
		got, e := mesh.Mirrored(m, axis)
		if e != api.OK || got.Vertices[1] != want || !slices.Equal(got.Faces, []api.Face{{A: 0, B: 1, C: 2}, {A: 0, B: 3, C: 1}, {A: 1, B: 3, C: 2}}) {
			t.Error(axis, got, e)
		}
	}
	for _, axis := range []int{least, -1, 3, greatest} {
		if got, e := mesh.Mirrored(m, axis); e != api.ErrKind || !isZero(got) {
			t.Error(axis, got, e)
		}
	}
}

// What follows: turning, moving and mirroring leave the volume; four quarters are none.
func TestVolumeStays(t *testing.T) {
	r := rand.New(rand.NewSource(4))
	for range 100 {
		m := solid(r)
		volume, _ := mesh.Volume(m)
		axis, quarters := r.Intn(3), r.Intn(4)
		turned, e1 := mesh.Turned(m, axis, quarters)
		moved, e2 := mesh.Moved(m, api.Vec{X: r.Intn(2000) - 1000, Y: r.Intn(2000) - 1000, Z: r.Intn(2000) - 1000})
		mirrored, e3 := mesh.Mirrored(m, axis)
		if e1 != api.OK || e2 != api.OK || e3 != api.OK {
			t.Fatal(e1, e2, e3)
		}
		for _, x := range []api.Mesh{turned, moved, mirrored} {
			if n, e := mesh.Volume(x); e != api.OK || n != volume {
				t.Fatal(m, x, volume, n, e)
			}
		}
		if back, e := mesh.Turned(turned, axis, (4-quarters)%4); e != api.OK || !same(back, m) {
			t.Fatal(m, back, e)
		}
		if back, e := mesh.Mirrored(mirrored, axis); e != api.OK || !same(back, m) {
			t.Fatal(m, back, e)
		}
		part, _ := mesh.Turned(m, axis, 1)
		for range 3 {
			part, _ = mesh.Turned(part, axis, 1)
		}
		if !same(part, m) {
			t.Fatal(m, part)
		}
	}
}

// P1.3: the vertices and faces of a, then those of b.
func TestJoined(t *testing.T) {
	a, b := open(), box(api.Vec{X: 9}, api.Vec{X: 1, Y: 1, Z: 1})
	got, e := mesh.Joined(a, b)
	if e != api.OK || !slices.Equal(got.Vertices[:4], a.Vertices) || !slices.Equal(got.Vertices[4:], b.Vertices) || !slices.Equal(got.Faces[:3], a.Faces) || len(got.Faces) != 15 {
		t.Fatal(got, e)
	}
	for i, f := range b.Faces {
		if got.Faces[3+i] != (api.Face{A: f.A + 4, B: f.B + 4, C: f.C + 4}) {
			t.Error(i, got.Faces[3+i])
		}
	}
	if got, e := mesh.Joined(tetra(), tetra()); e != api.OK || len(got.Vertices) != 8 {
		t.Error(got, e)
	}
	if got, e := mesh.Joined(tetras(125), tetras(125)); e != api.OK || len(got.Faces) != api.MaxFaces || mesh.CheckMesh(got) != api.OK {
		t.Error(e)
	}
	vertices := sheet(1, 1)
	if got, e := mesh.Joined(tetras(249), vertices); e != api.OK || len(got.Vertices) != api.MaxVertices {
		t.Error(len(got.Vertices), e)
	}
	vertices.Vertices = append(vertices.Vertices, api.Vec{})
	if got, e := mesh.Joined(tetras(249), vertices); e != api.ErrLarge || !isZero(got) {
		t.Error(e)
	}
	if got, e := mesh.Joined(sheet(25, api.MaxFaces), sheet(1, 1)); e != api.ErrLarge || !isZero(got) {
		t.Error(e)
	}
}

// P1.3: the error of a comes before that of b, and both before that of the result.
func TestJoinedErrors(t *testing.T) {
	for _, a := range wrongMeshes() {
		for _, b := range wrongMeshes() {
			if got, e := mesh.Joined(a.m, b.m); e != a.e || !isZero(got) {
				t.Error(a.name, b.name, got, e)
			}
		}
		if got, e := mesh.Joined(tetras(250), a.m); e != a.e || !isZero(got) {
			t.Error(a.name, got, e)
		}
	}
}

// P1.3: the faces in the order that is told, the vertices in their own.
func TestPart(t *testing.T) {
	m := api.Mesh{
		Vertices: []api.Vec{{X: 1}, {X: 2, Y: 2}, {X: 3, Z: 9}, {X: 4, Y: 7}, {X: 5, Y: 5, Z: 5}, {X: 6, Y: 1}},
		Faces:    []api.Face{{A: 0, B: 1, C: 2}, {A: 5, B: 3, C: 1}, {A: 2, B: 4, C: 3}, {A: 4, B: 2, C: 1}},
	}
	for _, c := range []struct {
		faces []int
		want  api.Mesh
	}{
		{[]int{0, 1, 2, 3}, m},
		{[]int{1}, api.Mesh{Vertices: []api.Vec{{X: 2, Y: 2}, {X: 4, Y: 7}, {X: 6, Y: 1}}, Faces: []api.Face{{A: 2, B: 1, C: 0}}}},
		{[]int{3, 2}, api.Mesh{Vertices: m.Vertices[1:5], Faces: []api.Face{{A: 3, B: 1, C: 0}, {A: 1, B: 3, C: 2}}}},
	} {
		if got, e := mesh.Part(m, c.faces); e != api.OK || !same(got, c.want) {
			t.Error(c.faces, got, e)
		}
	}
	for _, c := range []struct {
		faces []int
		e     api.Errno
	}{
		{nil, api.ErrNone}, {[]int{}, api.ErrNone}, {[]int{-1}, api.ErrNone}, {[]int{0, 4}, api.ErrNone}, {[]int{least}, api.ErrNone}, {[]int{greatest}, api.ErrNone},
		{[]int{2, 2}, api.ErrTwice}, {[]int{0, 1, 0}, api.ErrTwice}, {[]int{0, 0, 4}, api.ErrTwice}, {[]int{0, 4, 0, 0}, api.ErrNone}, {[]int{4, 4}, api.ErrNone},
		{make([]int, 200_000), api.ErrTwice},
	} {
		if got, e := mesh.Part(m, c.faces); e != c.e || !isZero(got) {
			t.Error(c.faces, got, e)
		}
	}
}

// P1.3: all vertices at one place become the first one of them; the vertices that no face has go.
func TestWelded(t *testing.T) {
	apart := api.Mesh{
		Vertices: []api.Vec{{X: 77}, {X: 6}, {}, {Z: 6}, {}, {Y: 6}, {X: 6}, {Y: 6}, {X: 6}, {X: 88}, {Y: 6}, {Z: 6}},
		Faces:    []api.Face{{A: 2, B: 5, C: 1}, {A: 4, B: 6, C: 3}, {A: 8, B: 7, C: 11}, {A: 4, B: 3, C: 10}},
	}
	want := api.Mesh{
		Vertices: []api.Vec{{X: 6}, {}, {Z: 6}, {Y: 6}},
		Faces:    []api.Face{{A: 1, B: 3, C: 0}, {A: 1, B: 0, C: 2}, {A: 0, B: 3, C: 2}, {A: 1, B: 2, C: 3}},
	}
	if got, e := mesh.Welded(apart); e != api.OK || !same(got, want) {
		t.Error(got, e)
	}
	if got, e := mesh.Welded(tetra()); e != api.OK || !same(got, tetra()) {
		t.Error(got, e)
	}
	// The first one at a place is kept although no face had it.
	unused := api.Mesh{Vertices: []api.Vec{{X: 6}, {Y: 6}, {}, {X: 6}}, Faces: []api.Face{{A: 2, B: 3, C: 1}}}
	if got, e := mesh.Welded(unused); e != api.OK || !same(got, api.Mesh{Vertices: unused.Vertices[:3], Faces: []api.Face{{A: 2, B: 0, C: 1}}}) {
		t.Error(got, e)
	}
	if got, e := mesh.Welded(joined(t, tetra(), tetra())); e != api.ErrTwice || !isZero(got) {
		t.Error(got, e)
	}
	collapsed := api.Mesh{Vertices: []api.Vec{{}, {}, {X: 6}, {Y: 6}}, Faces: []api.Face{{A: 0, B: 2, C: 3}, {A: 0, B: 1, C: 2}}}
	if got, e := mesh.Welded(collapsed); e != api.ErrForm || !isZero(got) {
		t.Error(got, e)
	}
}

// P1.3: what is cut into single faces and welded is what it was, but for the order of its vertices.
func TestWeldedRandom(t *testing.T) {
	r := rand.New(rand.NewSource(5))
	for range 200 {
		m, soup := solid(r), api.Mesh{}
		want, e := mesh.Welded(m)
		for _, f := range m.Faces {
			n := len(soup.Vertices)
			soup.Vertices = append(soup.Vertices, m.Vertices[f.A], m.Vertices[f.B], m.Vertices[f.C])
			soup.Faces = append(soup.Faces, api.Face{A: n, B: n + 1, C: n + 2})
		}
		got, other := mesh.Welded(soup)
		if e != other {
			t.Fatal(m, e, other)
		}
		if e != api.OK {
			continue
		}
		volume, _ := mesh.Volume(m)
		if n, e := mesh.Volume(got); e != api.OK || n != volume || len(got.Vertices) != len(want.Vertices) {
			t.Fatal(m, got, n, volume, e)
		}
		for i, f := range got.Faces {
			g := m.Faces[i]
			if got.Vertices[f.A] != m.Vertices[g.A] || got.Vertices[f.B] != m.Vertices[g.B] || got.Vertices[f.C] != m.Vertices[g.C] {
				t.Fatal(m, got, i)
			}
		}
	}
}
