package mesh_test

import (
	"math/rand"
	"reflect"
	"slices"
	"sync"
	"testing"

	"beadlayer/api"
	"beadlayer/mesh"
)

// odd is a number that may be anything.
func odd(r *rand.Rand) int {
	values := []int{least, least + 1, -100_001, -100_000, -1, 0, 1, 2, 3, 4, 100_000, 100_001, 1 << 31, 1 << 62, greatest}
	return values[r.Intn(len(values))]
}

// oddMesh may be invalid in any way.
func oddMesh(r *rand.Rand) api.Mesh {
	m := random(r)
	for range r.Intn(3) {
		m.Vertices[r.Intn(len(m.Vertices))] = api.Vec{X: odd(r), Y: odd(r), Z: odd(r)}
	}
	for range r.Intn(3) {
		m.Faces[r.Intn(len(m.Faces))] = api.Face{A: odd(r), B: odd(r), C: odd(r)}
	}
	return m
}

// Z1, Z3, Z6: no arguments make a call panic, and with an error all else is zero.
func TestAnyArguments(t *testing.T) {
	r := rand.New(rand.NewSource(8))
	for range 3000 {
		a, b := oddMesh(r), oddMesh(r)
		calls := append(goodCalls(), badCalls()...)
		axis, n, v := odd(r), odd(r), api.Vec{X: odd(r), Y: odd(r), Z: odd(r)}
		calls = append(calls,
			call{"Normal", func(m api.Mesh) ([]any, api.Errno) { x, e := mesh.Normal(m, n); return []any{x}, e }},
			call{"Turned", func(m api.Mesh) ([]any, api.Errno) { x, e := mesh.Turned(m, axis, n); return []any{x}, e }},
			call{"Moved", func(m api.Mesh) ([]any, api.Errno) { x, e := mesh.Moved(m, v); return []any{x}, e }},
			call{"Mirrored", func(m api.Mesh) ([]any, api.Errno) { x, e := mesh.Mirrored(m, axis); return []any{x}, e }},
			call{"Joined", func(m api.Mesh) ([]any, api.Errno) { x, e := mesh.Joined(m, b); return []any{x}, e }},
			call{"Part", func(m api.Mesh) ([]any, api.Errno) { x, e := mesh.Part(m, []int{v.X, v.Y}); return []any{x}, e }},
			call{"Overhangs", func(m api.Mesh) ([]any, api.Errno) {
				x, e := mesh.Overhangs(m, api.Fraction{Num: v.X, Den: v.Y})
				return []any{x}, e
			}},
			call{"Crossing", func(m api.Mesh) ([]any, api.Errno) { x, e := mesh.Crossing(m, n); return []any{x}, e }},
		)
		for _, f := range calls {
			results, e := f.run(a)
			for _, x := range results {
				if e != api.OK && !isZero(x) {
					t.Fatal(f.name, a, x, e)
				}
				if m, ok := x.(api.Mesh); ok && e == api.OK && mesh.CheckMesh(m) != api.OK {
					t.Fatal(f.name, a, m)
				}
			}
		}
	}
}

// Z1: texts of any bytes are read without a panic, and what is read is what Text writes (Z10).
func TestAnyText(t *testing.T) {
	r := rand.New(rand.NewSource(9))
	const some = "vf 0123- \n\nx"
	read := 0
	for range 20_000 {
		text := []byte(tetraText)
		for range r.Intn(3) {
			text[r.Intn(len(text))] = some[r.Intn(len(some))]
		}
		m, n, e := mesh.Read(string(text))
		if e != api.OK && !isZero(m) || e != api.ErrSyntax && n != 0 {
			t.Fatalf("%q %v %d %v", text, m, n, e)
		}
		if e == api.OK {
			read++
			if back, e := mesh.Text(m); e != api.OK || back != string(text) {
				t.Fatalf("%q %q %v", text, back, e)
			}
		}
	}
	if read < 1000 {
		t.Error(read)
	}
}

// Z1: functions without objects can be called by several goroutines at once.
func TestSeveralGoroutines(t *testing.T) {
	var all sync.WaitGroup
	m := box(api.Vec{}, api.Vec{X: 3, Y: 4, Z: 5})
	for range 8 {
		all.Go(func() {
			for _, f := range goodCalls() {
				if _, e := f.run(m); e != api.OK {
					t.Error(f.name, e)
				}
			}
		})
	}
	all.Wait()
}

// spread changes what is in a result.
func spread(value any) {
	switch v := value.(type) {
	case api.Mesh:
		for _, list := range []any{v.Vertices, v.Faces} {
			l := reflect.ValueOf(list)
			l = l.Slice(0, l.Cap())
			for i := range l.Len() {
				l.Index(i).Field(0).SetInt(-77)
			}
		}
	case []int:
		v = v[:cap(v)]
		for i := range v {
			v[i] = -77
		}
	case []api.Side:
		v = v[:cap(v)]
		for i := range v {
			v[i] = api.Side{From: -77, To: -77}
		}
	case [][]int:
		for _, l := range v {
			spread(l)
		}
	}
}

// Z2: arguments stay as they are, and share no memory with results.
func TestOwnMemory(t *testing.T) {
	r := rand.New(rand.NewSource(10))
	for range 100 {
		m := solid(r)
		want := copied(m)
		for _, f := range goodCalls() {
			first, e := f.run(m)
			if !same(m, want) {
				t.Fatal(f.name, "changed the mesh")
			}
			for _, x := range first {
				spread(x)
			}
			if !same(m, want) {
				t.Fatal(f.name, "has the mesh in its result")
			}
			a, _ := f.run(m)
			b, again := f.run(copied(m))
			if e != again || !reflect.DeepEqual(a, b) {
				t.Fatal(f.name, "has kept its result")
			}
		}
	}
}

// Z2: the lists of one result share no memory with each other.
func TestListsApart(t *testing.T) {
	groups, e := mesh.Shells(tetras(5))
	if e != api.OK {
		t.Fatal(e)
	}
	for i := range groups {
		spread(groups[i][:cap(groups[i])])
		if i+1 < len(groups) && !slices.Equal(groups[i+1], []int{4 * (i + 1), 4*(i+1) + 1, 4*(i+1) + 2, 4*(i+1) + 3}) {
			t.Error(i, groups)
		}
	}
}

// Z2: what is in the memory of a list after its length is neither looked at nor changed.
func TestBehindTheLength(t *testing.T) {
	r := rand.New(rand.NewSource(11))
	for range 50 {
		m := solid(r)
		long := copied(m)
		long.Vertices = append(long.Vertices, api.Vec{X: greatest}, api.Vec{X: 1, Y: 2, Z: 3})
		long.Faces = append(long.Faces, api.Face{A: -5}, long.Faces[0])
		whole := copied(long)
		long.Vertices, long.Faces = long.Vertices[:len(m.Vertices)], long.Faces[:len(m.Faces)]
		for _, f := range goodCalls() {
			a, e1 := f.run(m)
			b, e2 := f.run(long)
			if e1 != e2 || !reflect.DeepEqual(a, b) {
				t.Fatal(f.name, a, b, e1, e2)
			}
		}
		if !same(whole, api.Mesh{Vertices: long.Vertices[:len(whole.Vertices)], Faces: long.Faces[:len(whole.Faces)]}) {
			t.Fatal("changed behind the length")
		}
	}
	faces := []int{1, 0, 7, 7}
	if _, e := mesh.Part(tetra(), faces[:2]); e != api.OK || !slices.Equal(faces, []int{1, 0, 7, 7}) {
		t.Error(faces, e)
	}
}

// Z2: Part leaves its list of faces as it is.
func TestPartLeavesList(t *testing.T) {
	faces := []int{3, 1, 2}
	if _, e := mesh.Part(tetra(), faces); e != api.OK || !slices.Equal(faces, []int{3, 1, 2}) {
		t.Error(faces, e)
	}
}

// Z5: an empty list and none are the same.
func TestEmptyLists(t *testing.T) {
	for _, m := range []api.Mesh{{}, {Vertices: []api.Vec{}, Faces: []api.Face{}}, {Faces: []api.Face{}}} {
		for _, f := range goodCalls() {
			if _, e := f.run(m); e != api.ErrNone {
				t.Error(f.name, e)
			}
		}
	}
	for _, faces := range [][]int{nil, {}} {
		if _, e := mesh.Part(tetra(), faces); e != api.ErrNone {
			t.Error(e)
		}
	}
	m := api.Mesh{Vertices: []api.Vec{}, Faces: tetra().Faces}
	if e := mesh.CheckMesh(m); e != api.ErrNone {
		t.Error(e)
	}
}

// Z7: the same arguments give the same results, again and again.
func TestSameResults(t *testing.T) {
	r := rand.New(rand.NewSource(12))
	for range 20 {
		m := solid(r)
		m.Faces = m.Faces[1:]
		for _, f := range goodCalls() {
			first, e := f.run(m)
			for range 20 {
				if next, again := f.run(m); e != again || !reflect.DeepEqual(first, next) {
					t.Fatal(f.name, first, next, e, again)
				}
			}
		}
	}
}
