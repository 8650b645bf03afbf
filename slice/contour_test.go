package slice_test

import (
	"math/rand"
	"slices"
	"testing"

	"beadlayer/api"
	"beadlayer/slice"
)

type contours struct {
	rows   [][]api.Side
	closed []bool
}

func compare(a, b api.Side) int {
	if a.From != b.From {
		return a.From - b.From
	}
	return a.To - b.To
}

func (c contours) equal(d contours) bool {
	return slices.EqualFunc(c.rows, d.rows, slices.Equal[[]api.Side]) && slices.Equal(c.closed, d.closed)
}

func contoursOf(t *testing.T, m api.Mesh, z int) contours {
	t.Helper()
	rows, closed, e := slice.Contours(m, z)
	if e != api.OK {
		t.Fatal(e)
	}
	return contours{rows, closed}
}

// P2.2: a closed contour begins with its least side, an open one with the side that follows none.
func TestContours(t *testing.T) {
	open := tetra()
	open.Faces = open.Faces[:3]
	turned := tetra()
	turned.Faces = []api.Face{face(0, 3, 2), face(1, 2, 3)}
	inside := flipped(tetra())
	pair := api.Mesh{Vertices: tetra().Vertices[1:], Faces: []api.Face{face(0, 1, 2), face(0, 2, 1)}}
	single := api.Mesh{Vertices: tetra().Vertices[1:], Faces: []api.Face{face(1, 0, 2)}}
	mixed := both(single, tetra(), open)
	for _, c := range []struct {
		name string
		m    api.Mesh
		want contours
	}{
		{"example", tetra(), contours{[][]api.Side{{side(0, 3), side(1, 3), side(2, 3)}}, []bool{true}}},
		{"open", open, contours{[][]api.Side{{side(0, 3), side(1, 3), side(2, 3)}}, []bool{false}}},
		{"open, not from its least side on", turned, contours{[][]api.Side{{side(1, 3), side(2, 3), side(0, 3)}}, []bool{false}}},
		{"other way", inside, contours{[][]api.Side{{side(0, 3), side(2, 3), side(1, 3)}}, []bool{true}}},
		{"two faces", pair, contours{[][]api.Side{{side(0, 2), side(1, 2)}}, []bool{true}}},
		{"one face", single, contours{[][]api.Side{{side(1, 2), side(0, 2)}}, []bool{false}}},
		{"three contours", mixed, contours{[][]api.Side{{side(1, 2), side(0, 2)}, {side(3, 6), side(4, 6), side(5, 6)}, {side(7, 10), side(8, 10), side(9, 10)}}, []bool{false, true, false}}},
	} {
		for _, z := range []int{1, 6} {
			if got := contoursOf(t, c.m, z); !got.equal(c.want) {
				t.Error(c.name, z, got)
			}
		}
		for _, z := range []int{0, 7} {
			if got := contoursOf(t, c.m, z); len(got.rows) != 0 || len(got.closed) != 0 {
				t.Error(c.name, z, got)
			}
		}
	}
}

// P2.2: where a plane meets several vertices and level faces, contours are closed, too.
func TestContoursBlock(t *testing.T) {
	m := block(vec(0, 0, 0), vec(9, 9, 9))
	want := contours{[][]api.Side{{side(0, 4), side(0, 5), side(1, 5), side(1, 6), side(2, 6), side(2, 7), side(3, 7), side(3, 4)}}, []bool{true}}
	for _, z := range []int{1, 5, 9} {
		if got := contoursOf(t, m, z); !got.equal(want) {
			t.Error(z, got)
		}
	}
	if got := contoursOf(t, m, 0); len(got.rows) != 0 {
		t.Error(got)
	}
}

// P2.2: the first and the last side of each open contour, sorted.
func TestEnds(t *testing.T) {
	strip := block(vec(0, 0, 0), vec(9, 9, 9))
	strip.Faces = slices.Delete(strip.Faces, 7, 8)
	// Without the faces 6 and 10 of a block, the rest is in two contours.
	halves := block(vec(0, 0, 0), vec(9, 9, 9))
	halves.Faces = slices.Delete(slices.Delete(halves.Faces, 10, 11), 6, 7)
	for _, c := range []struct {
		name string
		m    api.Mesh
		want []api.Side
	}{
		{"closed", tetra(), nil},
		{"one face is missing", strip, []api.Side{side(1, 5), side(1, 6)}},
		{"two faces are missing", halves, []api.Side{side(0, 4), side(1, 6), side(2, 6), side(3, 4)}},
		{"with a closed one", both(tetra(), strip), []api.Side{side(5, 9), side(5, 10)}},
	} {
		got, e := slice.Ends(c.m, 5)
		if e != api.OK || !slices.Equal(got, c.want) {
			t.Error(c.name, got, e)
		}
	}
}

// slowContours looks for the segments that follow one another among all of them.
func slowContours(m api.Mesh, z int) contours {
	segments := slowSegments(m, z)
	used := make([]bool, len(segments))
	follower := func(to api.Side) int {
		return slices.IndexFunc(segments, func(s api.Segment) bool { return s.From == to })
	}
	var c contours
	add := func(row []api.Side, closed bool) {
		at := 0
		for at < len(c.rows) && compare(c.rows[at][0], row[0]) < 0 {
			at++
		}
		c.rows, c.closed = slices.Insert(c.rows, at, row), slices.Insert(c.closed, at, closed)
	}
	for i, s := range segments {
		if slices.ContainsFunc(segments, func(o api.Segment) bool { return o.To == s.From }) {
			continue
		}
		row := []api.Side{s.From}
		for i >= 0 {
			used[i] = true
			row = append(row, segments[i].To)
			i = follower(segments[i].To)
		}
		add(row, false)
	}
	for i := range segments {
		if used[i] {
			continue
		}
		var row []api.Side
		for k := i; !used[k]; k = follower(segments[k].To) {
			used[k] = true
			row = append(row, segments[k].From)
		}
		first := slices.Index(row, slices.MinFunc(row, compare))
		add(slices.Concat(row[first:], row[:first]), true)
	}
	return c
}

// P2.2: against another way to find contours, and ends.
func TestContoursRandom(t *testing.T) {
	r := rand.New(rand.NewSource(2))
	open, closed := 0, 0
	for n := range 3000 {
		m := random(r)
		if n%4 == 0 {
			m = both(m, ball(r, 7), ball(r, 9))
			r.Shuffle(len(m.Faces), func(i, k int) { m.Faces[i], m.Faces[k] = m.Faces[k], m.Faces[i] })
			m.Faces = m.Faces[r.Intn(2):]
		}
		for z := -3; z <= 3; z++ {
			want := slowContours(m, z)
			if got := contoursOf(t, m, z); !got.equal(want) {
				t.Fatal(m, z, got, want)
			}
			var ends []api.Side
			for i, row := range want.rows {
				if want.closed[i] {
					closed++
					continue
				}
				open++
				ends = append(ends, row[0], row[len(row)-1])
			}
			slices.SortFunc(ends, compare)
			if got, e := slice.Ends(m, z); e != api.OK || !slices.Equal(got, slices.Compact(ends)) {
				t.Fatal(m, z, got, ends, e)
			}
		}
	}
	if open < 1000 || closed < 1000 {
		t.Error(open, closed)
	}
}

// What follows: a closed mesh has only closed contours, and no ends.
func TestClosedContours(t *testing.T) {
	r := rand.New(rand.NewSource(3))
	for range 500 {
		m := both(ball(r, 30), ball(r, 50))
		z := r.Intn(50) - 25
		if got := contoursOf(t, m, z); slices.Contains(got.closed, false) {
			t.Fatal(m, z, got)
		}
		if ends, e := slice.Ends(m, z); e != api.OK || len(ends) != 0 {
			t.Fatal(m, z, ends, e)
		}
	}
}

// P2.2: two heights are alike if they have the same contours, and the same ones are closed.
func TestAlike(t *testing.T) {
	tower := both(block(vec(0, 0, 0), vec(9, 9, 5)), block(vec(20, 0, 2), vec(29, 9, 9)))
	for _, c := range []struct {
		m         api.Mesh
		low, high int
		want      bool
	}{
		{tetra(), 1, 6, true}, {tetra(), 6, 1, true}, {tetra(), 3, 3, true}, {tetra(), 0, 1, false}, {tetra(), 6, 7, false}, {tetra(), 0, 7, true}, {tetra(), -far, far, true},
		{tower, 1, 2, true}, {tower, 2, 3, false}, {tower, 3, 5, true}, {tower, 5, 6, false}, {tower, 6, 9, true}, {tower, 2, 6, false}, {tower, 9, 10, false}, {tower, 0, 10, true},
	} {
		if got, e := slice.Alike(c.m, c.low, c.high); e != api.OK || got != c.want {
			t.Error(c.low, c.high, got, e)
		}
	}
}

// P2.2: against a comparison of contours that are found in another way.
func TestAlikeRandom(t *testing.T) {
	r := rand.New(rand.NewSource(4))
	alike, other := 0, 0
	for range 5000 {
		m := random(r)
		low, high := r.Intn(8)-4, r.Intn(8)-4
		want := slowContours(m, low).equal(slowContours(m, high))
		got, e := slice.Alike(m, low, high)
		if e != api.OK || got != want {
			t.Fatal(m, low, high, got, e)
		}
		switch {
		case got && low != high:
			alike++
		case !got:
			other++
		}
	}
	if alike < 300 || other < 300 {
		t.Error(alike, other)
	}
}

// What follows: heights are alike if no vertex is at the lower one or above it, and below the upper one.
func TestAlikeBetweenVertices(t *testing.T) {
	r := rand.New(rand.NewSource(5))
	for range 1000 {
		m := ball(r, 40)
		low, high := r.Intn(40)-20, r.Intn(40)-20
		low, high = min(low, high), max(low, high)
		if slices.ContainsFunc(m.Vertices, func(v api.Vec) bool { return v.Z >= low && v.Z < high }) {
			continue
		}
		if got, e := slice.Alike(m, low, high); e != api.OK || !got {
			t.Fatal(m, low, high, got, e)
		}
	}
}
