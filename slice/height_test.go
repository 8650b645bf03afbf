package slice_test

import (
	"math/rand"
	"reflect"
	"slices"
	"testing"

	"beadlayer/api"
	"beadlayer/polygon"
	"beadlayer/slice"
)

// between is the example from a height to another one, with vertices that no face has below and above.
func between(low, high int) api.Mesh {
	m := tetra()
	for i := range m.Vertices {
		m.Vertices[i].Z = low
	}
	m.Vertices[3].Z = high
	m.Vertices = append(m.Vertices, vec(0, 0, max(low-7, -far)), vec(1, 1, min(high+7, far)))
	return m
}

// level has only one face, and no height.
func level() api.Mesh {
	return api.Mesh{Vertices: []api.Vec{vec(0, 0, 5), vec(9, 0, 5), vec(0, 9, 5), vec(0, 0, 50)}, Faces: []api.Face{face(0, 1, 2)}}
}

// P2.4: from the least Z plus first on, in steps, below the greatest Z.
func TestHeights(t *testing.T) {
	for _, c := range []struct {
		m           api.Mesh
		first, step int
		want        []int
	}{
		{tetra(), 1, 2, []int{1, 3, 5}},
		{tetra(), 2, 2, []int{2, 4}},
		{tetra(), 5, 1, []int{5}},
		{tetra(), 6, 1, nil},
		{tetra(), 1, api.MaxHeight, []int{1}},
		{tetra(), api.MaxHeight, api.MaxHeight, nil},
		{between(-10, -3), 3, 2, []int{-7, -5}},
		{between(-3, 4), 1, 3, []int{-2, 1}},
		{between(-far, far), api.MaxHeight, api.MaxHeight, []int{-90_000, -80_000, -70_000, -60_000, -50_000, -40_000, -30_000, -20_000, -10_000, 0, 10_000, 20_000, 30_000, 40_000, 50_000, 60_000, 70_000, 80_000, 90_000}},
		{level(), 1, 1, nil},
	} {
		if got, e := slice.Heights(c.m, c.first, c.step); e != api.OK || !slices.Equal(got, c.want) {
			t.Error(c.first, c.step, got, e)
		}
	}
	for _, c := range []struct{ low, high, first, step, count int }{
		{0, 1001, 1, 1, 1000}, {0, 1002, 1, 1, 0}, {0, 1002, 2, 1, 1000}, {-far, far, 200, 200, 999}, {-far, far, 1, 200, 1000}, {-far, far, 1, 199, 0}, {-far, far, 1, 1, 0}, {-5, 2997, 2, 3, 1000}, {-5, 2998, 2, 3, 0},
	} {
		got, e := slice.Heights(between(c.low, c.high), c.first, c.step)
		if c.count == 0 && e != api.ErrLarge || c.count > 0 && e != api.OK || len(got) != c.count {
			t.Error(c, len(got), e)
		}
	}
}

// P2.4: first and step are from 1 to MaxHeight, and are looked at before the number of layers.
func TestHeightsErrors(t *testing.T) {
	for _, n := range []int{least, -1, 0, api.MaxHeight + 1, greatest} {
		for _, c := range [][2]int{{n, 1}, {1, n}, {n, n}} {
			for _, m := range []api.Mesh{tetra(), level(), between(-far, far)} {
				if got, e := slice.Heights(m, c[0], c[1]); e != api.ErrArg || len(got) != 0 {
					t.Error(c, got, e)
				}
			}
		}
	}
}

// P2.4: each Z once, rising, and none of vertices that no face has.
func TestLevels(t *testing.T) {
	mixed := both(block(vec(0, 0, 3), vec(9, 9, 8)), between(-far, far), between(-4, 3))
	for _, c := range []struct {
		m    api.Mesh
		want []int
	}{{tetra(), []int{0, 6}}, {between(-10, -3), []int{-10, -3}}, {level(), []int{5}}, {mixed, []int{-far, -4, 3, 8, far}}} {
		if got, e := slice.Levels(c.m); e != api.OK || !slices.Equal(got, c.want) {
			t.Error(got, e)
		}
	}
}

// P2.4: each layer is as thick as the faces permit that it has.
func TestAdaptive(t *testing.T) {
	tower := block(vec(0, 0, 0), vec(9, 9, 20))
	// A face that leans: its thickness may be half of off. It is from 8 to 12.
	roof := api.Mesh{Vertices: []api.Vec{vec(0, 0, 8), vec(0, 9, 8), vec(8, 0, 12)}, Faces: []api.Face{face(0, 1, 2)}}
	for _, c := range []struct {
		name             string
		m                api.Mesh
		least, most, off int
		want             []int
	}{
		{"example", tetra(), 1, 4, 2, []int{2, 4, 6}},
		{"the last one is thinner", tetra(), 1, 4, 100, []int{4, 6}},
		{"only one", tetra(), 1, 6, 100, []int{6}},
		{"thicker than all", tetra(), 1, api.MaxHeight, api.MaxHeight, []int{6}},
		{"least is thicker than all", tetra(), 7, 9, 0, []int{6}},
		{"nothing is off", tetra(), 2, 6, 0, []int{2, 4, 6}},
		{"least, though it is too thick", tetra(), 4, 6, 3, []int{4, 6}},
		{"multiples", tetra(), 2, 6, 5, []int{4, 6}},
		{"most is no multiple", tower, 3, 8, 0, []int{6, 12, 18, 20}},
		{"upright and level faces permit all", tower, 1, 10, 0, []int{10, 20}},
		{"until the roof, on the roof, and above", both(tower, roof), 1, 10, 4, []int{8, 10, 12, 20}},
		{"as thick as the roof permits", both(tower, roof), 1, 10, 8, []int{8, 12, 20}},
		{"not reaching the roof", both(tower, roof), 3, 10, 6, []int{6, 9, 12, 20}},
		{"reaching the roof as it permits", both(tower, roof), 5, 10, 10, []int{5, 10, 15, 20}},
		{"the roof permits more than there is below it", both(tower, roof), 3, 10, 18, []int{9, 18, 20}},
		{"least reaches the roof", both(tower, roof), 9, 10, 0, []int{9, 18, 20}},
		{"below 0", between(-7, -1), 1, 5, 100, []int{-2, -1}},
		{"no height", level(), 1, 1, 1, nil},
	} {
		if got, e := slice.Adaptive(c.m, c.least, c.most, c.off); e != api.OK || !slices.Equal(got, c.want) {
			t.Error(c.name, got, e)
		}
	}
}

// P2.4: at most MaxLayers.
func TestAdaptiveLarge(t *testing.T) {
	for _, c := range []struct {
		low, high, least, most, off, count int
	}{
		{0, 1000, 1, 1, 0, 1000}, {0, 1001, 1, 1, 0, 0}, {-far, far, 200, 200, 0, 1000}, {-far, far, 199, 199, 0, 0}, {-far, far, 1, 1, 0, 0}, {-far, far, 1, 10_000, 10_000, 20}, {0, 2999, 3, 4, 0, 1000}, {0, 3001, 3, 4, 0, 0},
	} {
		m := block(vec(0, 0, c.low), vec(9, 9, c.high))
		got, e := slice.Adaptive(m, c.least, c.most, c.off)
		if c.count == 0 && e != api.ErrLarge || c.count > 0 && (e != api.OK || got[len(got)-1] != c.high) || len(got) != c.count {
			t.Error(c, len(got), e)
		}
	}
}

// P2.4: the arguments of Adaptive are looked at before the number of layers.
func TestAdaptiveErrors(t *testing.T) {
	const top = api.MaxHeight
	for _, c := range [][3]int{
		{0, 5, 5}, {-1, 5, 5}, {least, 5, 5}, {top + 1, top + 1, 5}, {greatest, greatest, 5}, {5, 4, 5}, {5, 0, 5}, {5, least, 5}, {5, top + 1, 5}, {5, greatest, 5}, {5, 5, -1}, {5, 5, least}, {5, 5, top + 1}, {5, 5, greatest}, {0, 0, 0},
	} {
		for _, m := range []api.Mesh{tetra(), level(), between(-far, far)} {
			if got, e := slice.Adaptive(m, c[0], c[1], c[2]); e != api.ErrArg || len(got) != 0 {
				t.Error(c, got, e)
			}
		}
	}
	for _, c := range [][3]int{{1, 1, 0}, {top, top, 0}, {1, top, top}, {5, 5, 5}} {
		if got, e := slice.Adaptive(tetra(), c[0], c[1], c[2]); e != api.OK {
			t.Error(c, got, e)
		}
	}
}

// permits reports whether all faces permit a layer.
func permits(m api.Mesh, bottom, thickness, off int) bool {
	for _, f := range m.Faces {
		a, b, c := m.Vertices[f.A], m.Vertices[f.B], m.Vertices[f.C]
		if min(a.Z, b.Z, c.Z) >= bottom+thickness || max(a.Z, b.Z, c.Z) <= bottom {
			continue
		}
		u, v := vec(b.X-a.X, b.Y-a.Y, b.Z-a.Z), vec(c.X-a.X, c.Y-a.Y, c.Z-a.Z)
		n := vec(u.Y*v.Z-u.Z*v.Y, u.Z*v.X-u.X*v.Z, u.X*v.Y-u.Y*v.X)
		if n.X == 0 && n.Y == 0 {
			continue
		}
		if thickness*max(n.Z, -n.Z) > off*max(n.X, -n.X, n.Y, -n.Y) {
			return false
		}
	}
	return true
}

// slowAdaptive tries all multiples.
func slowAdaptive(m api.Mesh, least, most, off int) []int {
	bottom, high := far, -far
	for _, f := range m.Faces {
		for _, i := range []int{f.A, f.B, f.C} {
			bottom, high = min(bottom, m.Vertices[i].Z), max(high, m.Vertices[i].Z)
		}
	}
	var tops []int
	for bottom < high {
		thickness := least
		for n := least; n <= most; n += least {
			if permits(m, bottom, n, off) {
				thickness = n
			}
		}
		bottom = min(bottom+thickness, high)
		tops = append(tops, bottom)
	}
	return tops
}

// P2.4: against another way to find tops.
func TestAdaptiveRandom(t *testing.T) {
	r := rand.New(rand.NewSource(8))
	for n := range 1500 {
		m := both(ball(r, 60), ball(r, 90))
		if n%3 == 0 {
			m = random(r)
			for i := range m.Vertices {
				m.Vertices[i].Z *= 9
			}
		}
		least := 1 + r.Intn(8)
		most, off := least+r.Intn(30), r.Intn(40)
		want := slowAdaptive(m, least, most, off)
		if got, e := slice.Adaptive(m, least, most, off); e != api.OK || !slices.Equal(got, want) {
			t.Fatal(m, least, most, off, got, want, e)
		}
	}
}

// P2.4: the cells of the rings at each height.
func TestLayers(t *testing.T) {
	hollow := both(block(vec(-10, -4, 0), vec(10, 16, 20)), flipped(block(vec(-4, 4, 5), vec(4, 8, 15))), block(vec(-1, 5, 12), vec(1, 7, 14)))
	solid := api.Cells{Step: 4, X: -12, Y: -4, Rows: []string{"######", "######", "######", "######", "######"}}
	hole := slices.Clone(solid.Rows)
	hole[2] = "##..##"
	island := api.Cells{Step: 4, X: -12, Y: -4, Rows: hole}
	none := api.Cells{Step: 4}
	for _, c := range []struct {
		name    string
		heights []int
		want    []api.Cells
	}{
		{"no heights", nil, nil},
		{"below", []int{-far, -1, 0}, []api.Cells{none, none, none}},
		{"through all", []int{1, 5, 6, 13, 15, 16, 20, 21, far}, []api.Cells{solid, solid, island, island, island, solid, solid, none, none}},
	} {
		if got, e := slice.Layers(hollow, c.heights, 4); e != api.OK || !slices.EqualFunc(got, c.want, equalCells) {
			t.Error(c.name, got, e)
		}
	}
	if got, e := slice.Layers(tetra(), []int{2, 4}, 2); e != api.OK || len(got) != 2 || !equalCells(got[0], api.Cells{Step: 2, Rows: []string{"##", "#."}}) || !equalCells(got[1], api.Cells{Step: 2, Rows: []string{"#"}}) {
		t.Error(got, e)
	}
}

func equalCells(a, b api.Cells) bool {
	return a.Step == b.Step && a.X == b.X && a.Y == b.Y && slices.Equal(a.Rows, b.Rows)
}

// P2.4: the errors of the heights, in their order, before those of the layers.
func TestLayersErrors(t *testing.T) {
	var most []int
	for i := range api.MaxStack {
		most = append(most, i)
	}
	broken := cones(squares(1)[0], squares(1)[0])
	wide := cones(ring(0, 0, 400, 0, 0, 400))
	for _, c := range []struct {
		name    string
		m       api.Mesh
		heights []int
		step    int
		e       api.Errno
	}{
		{"most heights", tetra(), most, 2, api.OK},
		{"too many heights", tetra(), append(slices.Clone(most), 0), 3, api.ErrLarge},
		{"too many heights out of range", tetra(), make([]int, 200_000), 2, api.ErrLarge},
		{"too low", tetra(), []int{-far - 1}, 2, api.ErrArg},
		{"too high", tetra(), []int{1, far + 1}, 2, api.ErrArg},
		{"least", tetra(), []int{1, least}, 2, api.ErrArg},
		{"greatest", tetra(), []int{greatest, 1}, 2, api.ErrArg},
		{"equal", tetra(), []int{1, 1}, 2, api.ErrOrder},
		{"falling", tetra(), []int{1, 3, 2}, 2, api.ErrOrder},
		{"falling, then out of range", tetra(), []int{3, 2, far + 1}, 2, api.ErrOrder},
		{"out of range, then falling", tetra(), []int{3, far + 1, 2}, 2, api.ErrArg},
		{"falling, and the step is odd", tetra(), []int{3, 2}, 3, api.ErrOrder},
		{"falling, and a layer is wrong", broken, []int{1, 0}, 2, api.ErrOrder},
		{"odd step", tetra(), []int{1}, 3, api.ErrArg},
		{"odd step, nothing cut", tetra(), []int{-1}, 3, api.ErrArg},
		{"odd step, no layer", tetra(), nil, 3, api.OK},
		{"step 0", tetra(), []int{1}, 0, api.ErrArg},
		{"negative step", tetra(), []int{1}, -2, api.ErrArg},
		{"least step", tetra(), []int{1}, least, api.ErrArg},
		{"greatest step", tetra(), []int{1}, greatest, api.ErrArg},
		{"large step", tetra(), []int{1}, api.MaxStep + 2, api.ErrArg},
		{"largest step", tetra(), []int{1}, api.MaxStep, api.OK},
		{"rings meet", broken, []int{1}, 2, api.ErrConflict},
		{"rings meet, odd step", broken, []int{1}, 3, api.ErrConflict},
		{"odd step at the layer before", broken, []int{0, 1}, 3, api.ErrArg},
		{"rings meet at the second layer", broken, []int{0, 1}, 2, api.ErrConflict},
		{"too many columns", wide, []int{1}, 2, api.ErrFull},
		{"large cells", wide, []int{1}, 4, api.OK},
		{"too many columns, then rings that meet", both(wide, api.Mesh{Vertices: []api.Vec{vec(0, 900, 1), vec(9, 900, 1), vec(0, 909, 1), vec(0, 900, 3)}, Faces: []api.Face{face(0, 1, 3), face(1, 2, 3), face(2, 0, 3)}}), []int{1, 2}, 2, api.ErrFull},
	} {
		if got, e := slice.Layers(c.m, c.heights, c.step); e != c.e || e != api.OK && len(got) != 0 {
			t.Error(c.name, got, e)
		}
	}
}

// P2.4: the columns and rows from the least to the greatest corner are at most MaxGrid.
func TestLayersFull(t *testing.T) {
	for _, c := range []struct {
		r api.Ring
		e api.Errno
	}{
		{ring(0, 0, 399, 0, 0, 9), api.OK}, {ring(0, 0, 400, 0, 0, 9), api.ErrFull}, {ring(-1, 0, 399, 0, 0, 9), api.ErrFull}, {ring(0, 0, 9, 0, 0, 399), api.OK}, {ring(0, 0, 9, 0, 0, 400), api.ErrFull}, {ring(0, -1, 9, 0, 0, 399), api.ErrFull},
	} {
		if got, e := slice.Layers(cones(c.r), []int{1}, 2); e != c.e || e != api.OK && len(got) != 0 {
			t.Error(c, got, e)
		}
	}
}

// P2.4: Layers is what Rings and the cells of regions are, height by height.
func TestLayersRandom(t *testing.T) {
	r := rand.New(rand.NewSource(9))
	layers := 0
	for range 1000 {
		m, step := ball(r, 100), 2+2*r.Intn(6)
		heights := []int{r.Intn(40) - 40, r.Intn(10), 10 + r.Intn(40)}
		var want []api.Cells
		first := api.OK
		for _, z := range heights {
			rings, e := slice.Rings(m, z)
			var c api.Cells
			if e == api.OK {
				c, e = polygon.Filled(rings, step)
			}
			if e != api.OK {
				want, first = nil, e
				break
			}
			want = append(want, c)
		}
		layers += len(want)
		if got, e := slice.Layers(m, heights, step); e != first || !equal(got, want) {
			t.Fatal(m, heights, step, got, want, e)
		}
	}
	if layers < 500 {
		t.Error(layers)
	}
}

// Z1: the largest meshes and the most heights.
func TestLargest(t *testing.T) {
	var rings []api.Ring
	for i := range 2 {
		r := comb(api.MaxRing - 2)
		for k, p := range r {
			r[k] = api.Point{X: 40 * p.X, Y: 40*p.Y + 1000*i}
		}
		rings = append(rings, r)
	}
	m := cones(rings...)
	for i := range m.Vertices {
		m.Vertices[i].Z *= far / 2
	}
	var heights []int
	for i := range api.MaxStack {
		heights = append(heights, 20_000+i)
	}
	got, e := slice.Layers(m, heights, 200)
	if e != api.OK || len(got) != api.MaxStack || reflect.DeepEqual(got[0], api.Cells{Step: 200}) {
		t.Error(len(got), e)
	}
	if got, e := slice.Adaptive(m, 100, api.MaxHeight, 0); e != api.OK || len(got) != api.MaxLayers {
		t.Error(len(got), e)
	}
	if got, e := slice.Adaptive(m, 1, api.MaxHeight, 0); e != api.ErrLarge || len(got) != 0 {
		t.Error(len(got), e)
	}
}
