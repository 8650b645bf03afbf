package mesh

import (
	"beadlayer/api"
)

const maxSlope = 1_000 // of the numerator and the denominator of a slope

// Overhangs are the faces that hang over.
func Overhangs(m api.Mesh, slope api.Fraction) ([]int, api.Errno) {
	if e := CheckMesh(m); e != api.OK {
		return nil, e
	}
	if slope.Den < 1 || !lowestTerms(slope) {
		return nil, api.ErrForm
	}
	if slope.Num < 0 || slope.Num > maxSlope || slope.Den > maxSlope {
		return nil, api.ErrArg
	}
	return facesThat(m, func(f api.Face) bool {
		n := normal(m.Vertices, f)
		flat := max(n.X, -n.X, n.Y, -n.Y)
		return n.Z < 0 && -n.Z*slope.Den > flat*slope.Num
	}), api.OK
}

// lowestTerms reports whether only 1 divides both numbers of a fraction with a denominator above 0. Remainders of any two ints are ints, so nothing overflows.
func lowestTerms(f api.Fraction) bool {
	a, b := f.Den, f.Num
	for b != 0 {
		a, b = b, a%b
	}
	return a == 1 || a == -1
}

// Crossing are the faces with a vertex below a height, and one at it or above.
func Crossing(m api.Mesh, z int) ([]int, api.Errno) {
	if e := CheckMesh(m); e != api.OK {
		return nil, e
	}
	if !inRange(z) {
		return nil, api.ErrArg
	}
	return facesThat(m, func(f api.Face) bool {
		a, b, c := m.Vertices[f.A].Z, m.Vertices[f.B].Z, m.Vertices[f.C].Z
		return min(a, b, c) < z && z <= max(a, b, c)
	}), api.OK
}

// facesThat are the indices of the faces with a property, rising.
func facesThat(m api.Mesh, has func(api.Face) bool) []int {
	var list []int
	for i, f := range m.Faces {
		if has(f) {
			list = append(list, i)
		}
	}
	return list
}
