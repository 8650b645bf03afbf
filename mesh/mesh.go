// Package mesh has triangle meshes.
package mesh

import (
	"beadlayer/api"
)

// CheckMesh validates a mesh.
func CheckMesh(m api.Mesh) api.Errno {
	if len(m.Faces) == 0 {
		return api.ErrNone
	}
	if len(m.Vertices) > api.MaxVertices || len(m.Faces) > api.MaxFaces {
		return api.ErrLarge
	}
	for _, v := range m.Vertices {
		if !inRange(v.X) || !inRange(v.Y) || !inRange(v.Z) {
			return api.ErrArg
		}
	}
	for _, f := range m.Faces {
		if e := checkFace(m.Vertices, f); e != api.OK {
			return e
		}
	}
	if len(faceOfSide(m.Faces)) < 3*len(m.Faces) {
		return api.ErrTwice
	}
	return api.OK
}

func inRange(n int) bool {
	return n >= -api.MaxCoordinate && n <= api.MaxCoordinate
}

func checkFace(vertices []api.Vec, f api.Face) api.Errno {
	for _, i := range cornersOf(f) {
		if i < 0 || i >= len(vertices) {
			return api.ErrNone
		}
	}
	// This finds two equal corners, too: they are on one line with any third one.
	if normal(vertices, f) == (api.Vec{}) {
		return api.ErrForm
	}
	return api.OK
}

func cornersOf(f api.Face) []int {
	return []int{f.A, f.B, f.C}
}

func sidesOf(f api.Face) []api.Side {
	return []api.Side{{From: f.A, To: f.B}, {From: f.B, To: f.C}, {From: f.C, To: f.A}}
}

func reversed(s api.Side) api.Side {
	return api.Side{From: s.To, To: s.From}
}

// faceOfSide tells for each side in its direction which face has it. In a valid mesh that is one face.
func faceOfSide(faces []api.Face) map[api.Side]int {
	owner := make(map[api.Side]int)
	for i, f := range faces {
		for _, s := range sidesOf(f) {
			owner[s] = i
		}
	}
	return owner
}

func normal(vertices []api.Vec, f api.Face) api.Vec {
	a := vertices[f.A]
	return cross(minus(vertices[f.B], a), minus(vertices[f.C], a))
}

func minus(a, b api.Vec) api.Vec {
	return api.Vec{X: a.X - b.X, Y: a.Y - b.Y, Z: a.Z - b.Z}
}

func cross(a, b api.Vec) api.Vec {
	return api.Vec{X: a.Y*b.Z - a.Z*b.Y, Y: a.Z*b.X - a.X*b.Z, Z: a.X*b.Y - a.Y*b.X}
}

func dot(a, b api.Vec) int {
	return a.X*b.X + a.Y*b.Y + a.Z*b.Z
}
