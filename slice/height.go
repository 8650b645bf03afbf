package slice

import (
	"slices"

	"beadlayer/api"
	"beadlayer/mesh"
	"beadlayer/polygon"
)

// Heights are those from the least one on, in steps.
func Heights(m api.Mesh, first, step int) ([]int, api.Errno) {
	low, high, e := mesh.Box(m)
	if e != api.OK {
		return nil, e
	}
	if !isThickness(first) || !isThickness(step) {
		return nil, api.ErrArg
	}
	var heights []int
	for z := low.Z + first; z < high.Z; z += step {
		if len(heights) == api.MaxLayers {
			return nil, api.ErrLarge
		}
		heights = append(heights, z)
	}
	return heights, api.OK
}

func isThickness(n int) bool {
	return n >= 1 && n <= api.MaxHeight
}

// Levels are the heights of all vertices that faces have.
func Levels(m api.Mesh) ([]int, api.Errno) {
	if e := mesh.CheckMesh(m); e != api.OK {
		return nil, e
	}
	var levels []int
	for _, f := range m.Faces {
		levels = append(levels, m.Vertices[f.A].Z, m.Vertices[f.B].Z, m.Vertices[f.C].Z)
	}
	slices.Sort(levels)
	return slices.Compact(levels), api.OK
}

// Adaptive are the tops of layers that are as thick as possible.
func Adaptive(m api.Mesh, least, most, off int) ([]int, api.Errno) {
	low, high, e := mesh.Box(m)
	if e != api.OK {
		return nil, e
	}
	if !isThickness(least) || most < least || most > api.MaxHeight || off < 0 || off > api.MaxHeight {
		return nil, api.ErrArg
	}
	thickest := thickestAt(m, most, off)
	var tops []int
	for z := low.Z; z < high.Z; {
		if len(tops) == api.MaxLayers {
			return nil, api.ErrLarge
		}
		multiple := thickest(z) / least * least
		z = min(z+max(least, multiple), high.Z)
		tops = append(tops, z)
	}
	return tops, api.OK
}

// slope is from where to where a face that leans is, and how thick a layer may be there.
type slope struct{ low, high, most int }

// thickestAt finds how thick a layer may be that begins at a height: as the slopes permit that it has.
func thickestAt(m api.Mesh, most, off int) func(int) int {
	slopes := slopesOf(m, off)
	return func(bottom int) int {
		thickness := most
		for _, s := range slopes {
			if s.high > bottom {
				// A layer that does not reach the slope may be thicker than the slope permits.
				thickness = min(thickness, max(s.low-bottom, s.most))
			}
		}
		return thickness
	}
}

// slopesOf leaves out level faces, which do not count, and upright ones, for which any layer is thin enough.
func slopesOf(m api.Mesh, off int) []slope {
	var slopes []slope
	for _, f := range m.Faces {
		a, b, c := m.Vertices[f.A], m.Vertices[f.B], m.Vertices[f.C]
		n := normalOf(a, b, c)
		flat := max(n.X, -n.X, n.Y, -n.Y)
		if flat == 0 || n.Z == 0 {
			continue
		}
		slopes = append(slopes, slope{
			low:  min(a.Z, b.Z, c.Z),
			high: max(a.Z, b.Z, c.Z),
			most: off * flat / max(n.Z, -n.Z),
		})
	}
	return slopes
}

// normalOf asks for the normal in a mesh with this one face of a valid mesh, as mesh.Normal validates the whole mesh at each call.
func normalOf(a, b, c api.Vec) api.Vec {
	n, _ := mesh.Normal(api.Mesh{Vertices: []api.Vec{a, b, c}, Faces: []api.Face{{A: 0, B: 1, C: 2}}}, 0)
	return n
}

// Layers are the cells at each height.
func Layers(m api.Mesh, heights []int, step int) ([]api.Cells, api.Errno) {
	if e := mesh.CheckMesh(m); e != api.OK {
		return nil, e
	}
	if e := checkHeights(heights); e != api.OK {
		return nil, e
	}
	var layers []api.Cells
	for _, z := range heights {
		rings, e := Rings(m, z)
		if e != api.OK {
			return nil, e
		}
		cells, e := polygon.Filled(rings, step)
		if e != api.OK {
			return nil, e
		}
		layers = append(layers, cells)
	}
	return layers, api.OK
}

func checkHeights(heights []int) api.Errno {
	if len(heights) > api.MaxStack {
		return api.ErrLarge
	}
	for i, z := range heights {
		if z < -api.MaxCoordinate || z > api.MaxCoordinate {
			return api.ErrArg
		}
		if i > 0 && z <= heights[i-1] {
			return api.ErrOrder
		}
	}
	return api.OK
}
