package mesh

import (
	"strconv"
	"strings"

	"beadlayer/api"
	"beadlayer/terms"
)

// The words that lines begin with.
const (
	vertexWord = "v"
	faceWord   = "f"
)

// Text writes a mesh.
func Text(m api.Mesh) (string, api.Errno) {
	if e := CheckMesh(m); e != api.OK {
		return "", e
	}
	var text strings.Builder
	for _, v := range m.Vertices {
		text.WriteString(written(vertexWord, v.X, v.Y, v.Z))
	}
	for _, f := range m.Faces {
		text.WriteString(written(faceWord, f.A, f.B, f.C))
	}
	return terms.Bounded(text.String())
}

func written(word string, a, b, c int) string {
	return word + " " + strconv.Itoa(a) + " " + strconv.Itoa(b) + " " + strconv.Itoa(c) + "\n"
}

// Read reads a mesh.
func Read(text string) (api.Mesh, int, api.Errno) {
	var m api.Mesh
	wrong, e := terms.Lines(text, func(line string) bool { return readLine(&m, line) })
	if e != api.OK {
		return api.Mesh{}, wrong, e
	}
	m, e = checked(m)
	return m, 0, e
}

// readLine adds what a line tells to a mesh; false if it does not have the form.
func readLine(m *api.Mesh, line string) bool {
	words := strings.Split(line, " ")
	n, ok := terms.Numbers(words[1:])
	if !ok || len(n) != 3 {
		return false
	}
	switch {
	case words[0] == vertexWord && len(m.Faces) == 0:
		m.Vertices = append(m.Vertices, api.Vec{X: n[0], Y: n[1], Z: n[2]})
	case words[0] == faceWord:
		m.Faces = append(m.Faces, api.Face{A: n[0], B: n[1], C: n[2]})
	default:
		return false
	}
	return true
}
