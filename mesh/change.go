package mesh

import (
	"slices"

	"beadlayer/api"
)

// Turned turns a mesh about an axis.
func Turned(m api.Mesh, axis, quarters int) (api.Mesh, api.Errno) {
	if e := CheckMesh(m); e != api.OK {
		return api.Mesh{}, e
	}
	quarter := quarterAbout(axis)
	if quarter == nil {
		return api.Mesh{}, api.ErrKind
	}
	if quarters < 0 || quarters > 3 {
		return api.Mesh{}, api.ErrArg
	}
	return checked(placed(m, func(v api.Vec) api.Vec {
		for range quarters {
			v = quarter(v)
		}
		return v
	}))
}

// quarterAbout is a quarter of a turn about an axis, nil if there is no such axis.
func quarterAbout(axis int) func(api.Vec) api.Vec {
	switch axis {
	case api.AxisX:
		return func(v api.Vec) api.Vec { return api.Vec{X: v.X, Y: -v.Z, Z: v.Y} }
	case api.AxisY:
		return func(v api.Vec) api.Vec { return api.Vec{X: v.Z, Y: v.Y, Z: -v.X} }
	case api.AxisZ:
		return func(v api.Vec) api.Vec { return api.Vec{X: -v.Y, Y: v.X, Z: v.Z} }
	}
	return nil
}

// Moved adds a vector to all vertices.
func Moved(m api.Mesh, by api.Vec) (api.Mesh, api.Errno) {
	if e := CheckMesh(m); e != api.OK {
		return api.Mesh{}, e
	}
	by = api.Vec{X: shortened(by.X), Y: shortened(by.Y), Z: shortened(by.Z)}
	return checked(placed(m, func(v api.Vec) api.Vec {
		return api.Vec{X: v.X + by.X, Y: v.Y + by.Y, Z: v.Z + by.Z}
	}))
}

// shortened keeps sums with coordinates from overflowing: what is moved so far is out of range, moved farther or not.
func shortened(n int) int {
	const far = 3 * api.MaxCoordinate
	return max(-far, min(n, far))
}

// Mirrored negates one coordinate of all vertices.
func Mirrored(m api.Mesh, axis int) (api.Mesh, api.Errno) {
	if e := CheckMesh(m); e != api.OK {
		return api.Mesh{}, e
	}
	mirror := mirrorAlong(axis)
	if mirror == nil {
		return api.Mesh{}, api.ErrKind
	}
	mirrored := placed(m, mirror)
	for i, f := range mirrored.Faces {
		mirrored.Faces[i] = api.Face{A: f.A, B: f.C, C: f.B}
	}
	return checked(mirrored)
}

// mirrorAlong negates the coordinate of an axis, nil if there is no such axis.
func mirrorAlong(axis int) func(api.Vec) api.Vec {
	switch axis {
	case api.AxisX:
		return func(v api.Vec) api.Vec { return api.Vec{X: -v.X, Y: v.Y, Z: v.Z} }
	case api.AxisY:
		return func(v api.Vec) api.Vec { return api.Vec{X: v.X, Y: -v.Y, Z: v.Z} }
	case api.AxisZ:
		return func(v api.Vec) api.Vec { return api.Vec{X: v.X, Y: v.Y, Z: -v.Z} }
	}
	return nil
}

// Joined is a mesh with all of two.
func Joined(a, b api.Mesh) (api.Mesh, api.Errno) {
	if e := CheckMesh(a); e != api.OK {
		return api.Mesh{}, e
	}
	if e := CheckMesh(b); e != api.OK {
		return api.Mesh{}, e
	}
	behind := renumbered(b.Faces, func(i int) int { return len(a.Vertices) + i })
	return checked(api.Mesh{
		Vertices: slices.Concat(a.Vertices, b.Vertices),
		Faces:    slices.Concat(a.Faces, behind),
	})
}

// Welded makes all vertices at one place one.
func Welded(m api.Mesh) (api.Mesh, api.Errno) {
	if e := CheckMesh(m); e != api.OK {
		return api.Mesh{}, e
	}
	first := make(map[api.Vec]int)
	for i, v := range m.Vertices {
		if _, taken := first[v]; !taken {
			first[v] = i
		}
	}
	// No face is to be removed: CheckMesh permits none with two corners at one place.
	faces := renumbered(m.Faces, func(i int) int { return first[m.Vertices[i]] })
	return checked(compacted(m.Vertices, faces))
}

// Part is a mesh with some faces.
func Part(m api.Mesh, faces []int) (api.Mesh, api.Errno) {
	if e := CheckMesh(m); e != api.OK {
		return api.Mesh{}, e
	}
	if len(faces) == 0 {
		return api.Mesh{}, api.ErrNone
	}
	taken := make([]bool, len(m.Faces))
	var chosen []api.Face
	for _, i := range faces {
		if i < 0 || i >= len(m.Faces) {
			return api.Mesh{}, api.ErrNone
		}
		if taken[i] {
			return api.Mesh{}, api.ErrTwice
		}
		taken[i] = true
		chosen = append(chosen, m.Faces[i])
	}
	return checked(compacted(m.Vertices, chosen))
}

// placed is a new mesh with each vertex where place leads it.
func placed(m api.Mesh, place func(api.Vec) api.Vec) api.Mesh {
	vertices := make([]api.Vec, 0, len(m.Vertices))
	for _, v := range m.Vertices {
		vertices = append(vertices, place(v))
	}
	return api.Mesh{Vertices: vertices, Faces: slices.Clone(m.Faces)}
}

// renumbered are new faces with the vertices that number tells.
func renumbered(faces []api.Face, number func(int) int) []api.Face {
	result := make([]api.Face, 0, len(faces))
	for _, f := range faces {
		result = append(result, api.Face{A: number(f.A), B: number(f.B), C: number(f.C)})
	}
	return result
}

// compacted is a new mesh with the faces, and of the vertices those that they have.
func compacted(vertices []api.Vec, faces []api.Face) api.Mesh {
	used := make([]bool, len(vertices))
	for _, f := range faces {
		used[f.A], used[f.B], used[f.C] = true, true, true
	}
	place := make([]int, len(vertices))
	var kept []api.Vec
	for i, v := range vertices {
		if used[i] {
			place[i] = len(kept)
			kept = append(kept, v)
		}
	}
	return api.Mesh{Vertices: kept, Faces: renumbered(faces, func(i int) int { return place[i] })}
}

// checked returns the mesh, or why it is none.
func checked(m api.Mesh) (api.Mesh, api.Errno) {
	if e := CheckMesh(m); e != api.OK {
		return api.Mesh{}, e
	}
	return m, api.OK
}
