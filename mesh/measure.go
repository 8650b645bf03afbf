package mesh

import (
	"cmp"
	"slices"

	"beadlayer/api"
)

// Open are the open sides.
func Open(m api.Mesh) ([]api.Side, api.Errno) {
	if e := CheckMesh(m); e != api.OK {
		return nil, e
	}
	open := openSides(m.Faces)
	slices.SortFunc(open, func(a, b api.Side) int {
		return cmp.Or(cmp.Compare(a.From, b.From), cmp.Compare(a.To, b.To))
	})
	return open, api.OK
}

func openSides(faces []api.Face) []api.Side {
	owner := faceOfSide(faces)
	var open []api.Side
	for _, f := range faces {
		for _, s := range sidesOf(f) {
			if _, met := owner[reversed(s)]; !met {
				open = append(open, s)
			}
		}
	}
	return open
}

func checkClosed(m api.Mesh) api.Errno {
	if e := CheckMesh(m); e != api.OK {
		return e
	}
	if len(openSides(m.Faces)) > 0 {
		return api.ErrState
	}
	return api.OK
}

// Box is the least and the greatest coordinates of the vertices that faces have.
func Box(m api.Mesh) (api.Vec, api.Vec, api.Errno) {
	if e := CheckMesh(m); e != api.OK {
		return api.Vec{}, api.Vec{}, e
	}
	low := m.Vertices[m.Faces[0].A]
	high := low
	for _, f := range m.Faces {
		for _, i := range cornersOf(f) {
			v := m.Vertices[i]
			low = api.Vec{X: min(low.X, v.X), Y: min(low.Y, v.Y), Z: min(low.Z, v.Z)}
			high = api.Vec{X: max(high.X, v.X), Y: max(high.Y, v.Y), Z: max(high.Z, v.Z)}
		}
	}
	return low, high, api.OK
}

// Normal is the product of two sides of a face.
func Normal(m api.Mesh, face int) (api.Vec, api.Errno) {
	if e := CheckMesh(m); e != api.OK {
		return api.Vec{}, e
	}
	if face < 0 || face >= len(m.Faces) {
		return api.Vec{}, api.ErrNone
	}
	return normal(m.Vertices, m.Faces[face]), api.OK
}

// Volume is six times the volume.
func Volume(m api.Mesh) (int, api.Errno) {
	if e := checkClosed(m); e != api.OK {
		return 0, e
	}
	sum := 0
	for _, f := range m.Faces {
		sum += wedge(m.Vertices, f)
	}
	return sum, api.OK
}

// Volumes is six times the volume of each shell.
func Volumes(m api.Mesh) ([]int, api.Errno) {
	if e := checkClosed(m); e != api.OK {
		return nil, e
	}
	var volumes []int
	for _, shell := range shells(m.Faces) {
		sum := 0
		for _, i := range shell {
			sum += wedge(m.Vertices, m.Faces[i])
		}
		volumes = append(volumes, sum)
	}
	return volumes, api.OK
}

// wedge is what a face adds to six times the volume. Its amount is at most 4 MaxCoordinate³, so that the sum for MaxFaces faces is an int.
func wedge(vertices []api.Vec, f api.Face) int {
	return dot(vertices[f.A], cross(vertices[f.B], vertices[f.C]))
}

// Shells are the groups of connected faces.
func Shells(m api.Mesh) ([][]int, api.Errno) {
	if e := CheckMesh(m); e != api.OK {
		return nil, e
	}
	return shells(m.Faces), api.OK
}

func shells(faces []api.Face) [][]int {
	var groups [][]int
	for i, n := range shellOfFace(faces) {
		if n == len(groups) {
			groups = append(groups, nil)
		}
		groups[n] = append(groups[n], i)
	}
	return groups
}

// shellOfFace numbers the shells by their first faces. Faces of a valid mesh with two vertices in common have this side in opposite directions, as none has it twice in the same one.
func shellOfFace(faces []api.Face) []int {
	owner := faceOfSide(faces)
	shell := slices.Repeat([]int{-1}, len(faces))
	count := 0
	for first := range faces {
		if shell[first] >= 0 {
			continue
		}
		shell[first] = count
		reached := []int{first}
		for k := 0; k < len(reached); k++ {
			for _, s := range sidesOf(faces[reached[k]]) {
				if next, met := owner[reversed(s)]; met && shell[next] < 0 {
					shell[next] = count
					reached = append(reached, next)
				}
			}
		}
		count++
	}
	return shell
}
