package mesh_test

import (
	"math/rand"
	"strings"
	"testing"

	"beadlayer/api"
	"beadlayer/mesh"
)

const tetraText = "v 0 0 0\nv 6 0 0\nv 0 6 0\nv 0 0 6\nf 0 2 1\nf 0 1 3\nf 1 2 3\nf 0 3 2\n"

// P1.5: a line for each vertex, then one for each face.
func TestText(t *testing.T) {
	if text, e := mesh.Text(tetra()); e != api.OK || text != tetraText {
		t.Errorf("%q %v", text, e)
	}
	m := api.Mesh{Vertices: []api.Vec{{X: -100_000, Y: 100_000, Z: -1}, {X: 10, Y: -20, Z: 0}, {}}, Faces: []api.Face{{A: 2, B: 0, C: 1}}}
	if text, e := mesh.Text(m); e != api.OK || text != "v -100000 100000 -1\nv 10 -20 0\nv 0 0 0\nf 2 0 1\n" {
		t.Errorf("%q %v", text, e)
	}
}

// P1.5: the largest mesh has a text, too, and comes back.
func TestTextLargest(t *testing.T) {
	m := tetras(250)
	for i := range m.Vertices {
		m.Vertices[i].X -= api.MaxCoordinate
		m.Vertices[i].Y -= api.MaxCoordinate
		m.Vertices[i].Z -= api.MaxCoordinate
	}
	text, e := mesh.Text(m)
	if e != api.OK || strings.Count(text, "\n") != 2000 || len(text) > api.MaxText {
		t.Fatal(len(text), e)
	}
	if back, n, e := mesh.Read(text); e != api.OK || n != 0 || !same(back, m) {
		t.Error(n, e)
	}
}

// P1.5, Z10: what Text writes Read reads to an equal value.
func TestReadText(t *testing.T) {
	r := rand.New(rand.NewSource(7))
	for range 300 {
		m := random(r)
		text, e := mesh.Text(m)
		if e != api.OK {
			t.Fatal(e)
		}
		if back, n, e := mesh.Read(text); e != api.OK || n != 0 || !same(back, m) {
			t.Fatal(m, back, n, e)
		}
	}
}

// P1.5, Z9, Z10: the first line that does not have the form.
func TestReadSyntax(t *testing.T) {
	for _, line := range []string{
		"", " ", "v", "f", "v ", "v 1 2", "v 1 2 3 4", "v  1 2 3", "v 1  2 3", "v 1 2 3 ", " v 1 2 3", "v\t1 2 3", "v 1 2 3\r", "V 1 2 3", "vv 1 2 3", "1 2 3", "x 1 2 3", "# v 1 2 3",
		"v 01 2 3", "v 1 -0 3", "v 1 2 +3", "v 1 2 x", "v 1 2 3.0", "v 1 2 1000000000000000", "v 1 2 -1000000000000000", "v -- 2 3", "v - 2 3", "v 1 2 ٣",
		"f 0 1", "f 0 1 2 3", "f 0 1 02", "f  0 1 2", "f 0 1 2 ", "F 0 1 2", "f0 1 2", "v1 2 3",
	} {
		for at, text := range []string{line + "\n" + tetraText, "v 9 9 9\n" + line + "\n" + tetraText, "v 9 9 9\nv 9 9 9\n" + line + "\nbad\n"} {
			if m, n, e := mesh.Read(text); e != api.ErrSyntax || n != at || !isZero(m) {
				t.Errorf("%q: %v %d %v", text, m, n, e)
			}
		}
		if m, n, e := mesh.Read(tetraText + line + "\n"); e != api.ErrSyntax || n != 8 || !isZero(m) {
			t.Errorf("%q: %v %d %v", line, m, n, e)
		}
	}
	for text, at := range map[string]int{
		"v":                                       0,
		strings.TrimSuffix(tetraText, "\n"):       7,
		tetraText + "v 1 2 3\n":                   8,
		tetraText + "v 1 2 3\nbad\n":              8,
		"f 0 1 2\nv 0 0 0\n":                      1,
		tetraText + "f 0 1 2":                     8,
		tetraText + "\n":                          8,
		"v 0 0 0\nf 0 1\n":                        1,
		strings.ReplaceAll(tetraText, "\n", "\r"): 0,
	} {
		if m, n, e := mesh.Read(text); e != api.ErrSyntax || n != at || !isZero(m) {
			t.Errorf("%q: %v %d %v", text, m, n, e)
		}
	}
}

// P1.5: CheckMesh's errors come after those of the form; the line is 0.
func TestReadErrors(t *testing.T) {
	vertices := "v 0 0 0\nv 6 0 0\nv 0 6 0\n"
	for text, want := range map[string]api.Errno{
		"":                                   api.ErrNone,
		vertices:                             api.ErrNone,
		vertices + "f 0 1 3\n":               api.ErrNone,
		vertices + "f 0 1 -1\n":              api.ErrNone,
		vertices + "f 0 1 999999999999999\n": api.ErrNone,
		"v 0 0 999999999999999\n" + vertices + "f 1 2 3\n":         api.ErrArg,
		"v 0 -999999999999999 0\n" + vertices + "f 1 2 3\n":        api.ErrArg,
		"v 100001 0 0\n" + vertices + "f 1 2 3\n":                  api.ErrArg,
		vertices + "f 0 1 1\n":                                     api.ErrForm,
		vertices + "f 0 1 2\nf 0 1 2\n":                            api.ErrTwice,
		strings.Repeat(vertices, 333) + "v 0 0 0\nf 0 1 2\n":       api.OK,
		strings.Repeat(vertices, 334) + "f 0 1 2\n":                api.ErrLarge,
		vertices + strings.Repeat("f 0 1 2\n", 1001):               api.ErrLarge,
		strings.Repeat("v 0 0 0\n", api.MaxText/8):                 api.ErrNone,
		strings.Repeat("v 0 0 0\n", api.MaxText/8) + "\n":          api.ErrLarge,
		strings.Repeat("x", api.MaxText+1):                         api.ErrLarge,
		vertices + "f 0 1 2\n" + strings.Repeat("\n", api.MaxText): api.ErrLarge,
	} {
		m, n, e := mesh.Read(text)
		if e != want || n != 0 || e != api.OK && !isZero(m) {
			t.Errorf("%.60q, %d bytes: %d %v", text, len(text), n, e)
		}
	}
	if _, n, e := mesh.Read(strings.Repeat("x", api.MaxText)); e != api.ErrSyntax || n != 0 {
		t.Error(n, e)
	}
}
