package slice_test

import (
	"math/rand"
	"reflect"
	"sync"
	"testing"

	"beadlayer/api"
	"beadlayer/slice"
)

// goodCalls are all functions, with arguments that are valid for most meshes.
func goodCalls() []call {
	heights := []int{0, 1, 5}
	return append(append(atHeight(2), withThickness(1, 2, 3)...),
		call{"Layers", func(m api.Mesh) ([]any, api.Errno) { l, e := slice.Layers(m, heights, 2); return []any{l}, e }})
}

// odd is a number that may be anything.
func odd(r *rand.Rand) int {
	values := []int{least, least + 1, -far - 1, -far, -1, 0, 1, 2, 3, 4, api.MaxHeight, api.MaxHeight + 1, far, far + 1, 1 << 31, 1 << 62, greatest}
	return values[r.Intn(len(values))]
}

// oddMesh may be invalid in any way.
func oddMesh(r *rand.Rand) api.Mesh {
	m := random(r)
	for range r.Intn(3) {
		m.Vertices[r.Intn(len(m.Vertices))] = vec(odd(r), odd(r), odd(r))
	}
	for range r.Intn(2) {
		m.Faces[r.Intn(len(m.Faces))] = face(odd(r), odd(r), odd(r))
	}
	return m
}

// Z1, Z3, Z6: no arguments make a call panic, and with an error all else is zero.
func TestAnyArguments(t *testing.T) {
	r := rand.New(rand.NewSource(10))
	for range 3000 {
		m := oddMesh(r)
		heights, step := []int{odd(r), odd(r)}, odd(r)
		calls := append(atHeight(odd(r)), withThickness(odd(r), odd(r), odd(r))...)
		calls = append(calls, call{"Layers", func(m api.Mesh) ([]any, api.Errno) {
			l, e := slice.Layers(m, heights, step)
			return []any{l}, e
		}})
		for _, f := range calls {
			results, e := f.run(m)
			for _, x := range results {
				if e != api.OK && !isZero(x) {
					t.Fatal(f.name, m, x, e)
				}
			}
		}
	}
}

// Z1: functions without objects can be called by several goroutines at once.
func TestSeveralGoroutines(t *testing.T) {
	var all sync.WaitGroup
	m := tetra()
	for range 8 {
		all.Go(func() {
			for _, f := range goodCalls() {
				if _, e := f.run(m); e != api.OK {
					t.Error(f.name, e)
				}
			}
		})
	}
	all.Wait()
}

// spread changes what is in a list, and in the memory behind it.
func spread(value any) {
	v := reflect.ValueOf(value)
	if v.Kind() != reflect.Slice {
		return
	}
	whole := v.Slice(0, v.Cap())
	for i := range whole.Len() {
		if one := whole.Index(i); one.Kind() == reflect.Slice {
			spread(one.Interface())
		} else {
			one.SetZero()
		}
	}
}

// Z2: arguments stay as they are, and share no memory with results.
func TestOwnMemory(t *testing.T) {
	r := rand.New(rand.NewSource(11))
	for range 300 {
		m := both(ball(r, 20), random(r))
		want := copied(m)
		for _, f := range goodCalls() {
			first, e := f.run(m)
			for _, x := range first {
				spread(x)
			}
			if !same(m, want) {
				t.Fatal(f.name, "changed the mesh")
			}
			a, _ := f.run(m)
			b, again := f.run(copied(m))
			if e != again || !reflect.DeepEqual(a, b) {
				t.Fatal(f.name, "has kept its result")
			}
		}
	}
	heights := []int{1, 2, 9, 9}
	if _, e := slice.Layers(tetra(), heights[:2], 2); e != api.OK || !reflect.DeepEqual(heights, []int{1, 2, 9, 9}) {
		t.Error(heights, e)
	}
}

// Z2: the lists of one result share no memory with each other.
func TestListsApart(t *testing.T) {
	m := cones(squares(5)...)
	rings, e := slice.Rings(m, 1)
	rows, _, _ := slice.Contours(m, 1)
	if e != api.OK || len(rings) != 5 || len(rows) != 5 {
		t.Fatal(rings, rows, e)
	}
	for i := range 4 {
		spread(rings[i])
		spread(rows[i])
		if rings[i+1][1] != (api.Point{X: 10*i + 15}) || rows[i+1][1] != side(5*i+6, 5*i+9) {
			t.Error(i, rings, rows)
		}
	}
}

// Z2: what is in the memory of a list after its length is neither looked at nor changed.
func TestBehindTheLength(t *testing.T) {
	r := rand.New(rand.NewSource(12))
	for range 100 {
		m := ball(r, 20)
		long := copied(m)
		long.Vertices = append(long.Vertices, vec(greatest, 0, 0))
		long.Faces = append(long.Faces, face(-5, 0, 0), long.Faces[0])
		whole := copied(long)
		long.Vertices, long.Faces = long.Vertices[:len(m.Vertices)], long.Faces[:len(m.Faces)]
		for _, f := range goodCalls() {
			a, e1 := f.run(m)
			b, e2 := f.run(long)
			if e1 != e2 || !reflect.DeepEqual(a, b) {
				t.Fatal(f.name, a, b, e1, e2)
			}
		}
		if !same(whole, api.Mesh{Vertices: long.Vertices[:len(whole.Vertices)], Faces: long.Faces[:len(whole.Faces)]}) {
			t.Fatal("changed behind the length")
		}
	}
}

// Z5: an empty list and none are the same.
func TestEmptyLists(t *testing.T) {
	for _, m := range []api.Mesh{{}, {Vertices: []api.Vec{}, Faces: []api.Face{}}} {
		for _, f := range goodCalls() {
			if _, e := f.run(m); e != api.ErrNone {
				t.Error(f.name, e)
			}
		}
	}
	for _, heights := range [][]int{nil, {}} {
		if got, e := slice.Layers(tetra(), heights, 2); e != api.OK || len(got) != 0 {
			t.Error(got, e)
		}
	}
}

// Z7: the same arguments give the same results, again and again.
func TestSameResults(t *testing.T) {
	r := rand.New(rand.NewSource(13))
	for range 50 {
		m := both(ball(r, 20), random(r), random(r))
		for _, f := range goodCalls() {
			first, e := f.run(m)
			for range 20 {
				if next, again := f.run(m); e != again || !reflect.DeepEqual(first, next) {
					t.Fatal(f.name, first, next, e, again)
				}
			}
		}
	}
}
