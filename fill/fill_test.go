package fill_test

import (
	"math/rand"
	"slices"
	"testing"

	"beadlayer/api"
	"beadlayer/fill"
)

// P4.3: what is not in the next wall, and what is inside.
func TestWalls(t *testing.T) {
	for _, c := range []struct {
		name   string
		c      api.Cells
		n      int
		walls  []api.Cells
		inside api.Cells
	}{
		{"no walls", frame(), 0, nil, frame()},
		{"no cells", cells(10, 0, 0), 2, []api.Cells{cells(10, 0, 0), cells(10, 0, 0)}, cells(10, 0, 0)},
		{"one wall", full(10, 0, 0, 3, 4), 1, []api.Cells{cells(10, 0, 0, "###", "#.#", "#.#", "###")}, cells(10, 10, 10, "#", "#")},
		{"two walls", full(10, -20, -20, 5, 5), 2,
			[]api.Cells{cells(10, -20, -20, "#####", "#...#", "#...#", "#...#", "#####"), cells(10, -10, -10, "###", "#.#", "###")},
			cells(10, 0, 0, "#")},
		{"walls that are not there", full(2, 0, 0, 3, 3), 3,
			[]api.Cells{cells(2, 0, 0, "###", "#.#", "###"), cells(2, 2, 2, "#"), cells(2, 0, 0)},
			cells(2, 0, 0)},
		{"around a hole", cells(2, 0, 0, "#######", "#######", "#######", "###.###", "#######", "#######", "#######"), 2,
			[]api.Cells{cells(2, 0, 0, "#######", "#.....#", "#.###.#", "#.#.#.#", "#.###.#", "#.....#", "#######"), cells(2, 2, 2, "#####", "#...#", "#...#", "#...#", "#####")},
			cells(2, 0, 0)},
		{"corners count", cells(2, 0, 0, "###.", "####", "####"), 1,
			[]api.Cells{cells(2, 0, 0, "###.", "#.##", "####")},
			cells(2, 2, 2, "#")},
		{"the greatest X and Y", full(2, edge, edge, 2, 2), 1, []api.Cells{full(2, edge, edge, 2, 2)}, cells(2, 0, 0)},
	} {
		walls, inside, e := fill.Walls(c.c, c.n)
		if e != api.OK || !slices.EqualFunc(walls, c.walls, sameCells) || !sameCells(inside, c.inside) {
			t.Error(c.name, walls, inside, e)
		}
	}
	walls, inside, e := fill.Walls(full(2, 0, 0, 200, 200), api.MaxWalls)
	if e != api.OK || len(walls) != api.MaxWalls || len(setOf(walls[9])) != 4*181 || !sameCells(inside, full(2, 20, 20, 180, 180)) {
		t.Error(len(walls), inside, e)
	}
}

// shrunk are the cells for which all near ones are in the set.
func (s set) shrunk(n int) set {
	return s.kept(func(column, row int) bool {
		for k := -n; k <= n; k++ {
			for i := -n; i <= n; i++ {
				if !s[[2]int{column + k, row + i}] {
					return false
				}
			}
		}
		return true
	})
}

func (s set) minus(o set) set {
	return s.kept(func(column, row int) bool { return !o[[2]int{column, row}] })
}

func slowWalls(s set, n, step int) []api.Cells {
	var walls []api.Cells
	for k := range n {
		walls = append(walls, s.shrunk(k).minus(s.shrunk(k+1)).cells(step))
	}
	return walls
}

func TestWallsRandom(t *testing.T) {
	r := rand.New(rand.NewSource(6))
	deep := 0
	for range 2000 {
		s, n := randomSet(r, -3, -4), r.Intn(5)
		for p := range setOf(full(4, -8, 0, 6+r.Intn(5), 6+r.Intn(5))) {
			s[p] = true
		}
		c := s.cells(4)
		walls, inside, e := fill.Walls(c, n)
		if e != api.OK || !slices.EqualFunc(walls, slowWalls(s, n, 4), sameCells) || !sameCells(inside, s.shrunk(n).cells(4)) {
			t.Fatal(c, n, walls, inside, e)
		}
		if n > 1 && len(inside.Rows) > 0 {
			deep++
		}
	}
	if deep < 500 {
		t.Error(deep)
	}
}

// P4.3: the errors of Walls, in their order.
func TestWallsErrors(t *testing.T) {
	for _, c := range []struct {
		c api.Cells
		n int
		e api.Errno
	}{
		{cells(2, 0, 0, "#"), api.MaxWalls, api.OK},
		{cells(2, 0, 0, "#."), -1, api.ErrForm},
		{cells(5, 0, 0, "#"), -1, api.ErrArg},
		{cells(2, 0, 0, "?"), -1, api.ErrSyntax},
		{cells(2, 0, 0, "#"), -1, api.ErrArg},
		{cells(2, 0, 0), api.MaxWalls + 1, api.ErrArg},
		{cells(2, 0, 0), least, api.ErrArg},
		{cells(2, 0, 0), greatest, api.ErrArg},
		{full(2, edge, 0, 3, 3), 0, api.OK},
		{full(2, edge, 0, 3, 3), 1, api.ErrArg},
	} {
		walls, inside, e := fill.Walls(c.c, c.n)
		if e != c.e || e != api.OK && (len(walls) > 0 || !isZero(inside)) {
			t.Error(c, walls, inside, e)
		}
	}
}

// pile are layers: a full one, one with a hole, a small one at the side, a full one.
func pile() []api.Cells {
	return []api.Cells{
		full(10, 0, 0, 3, 3),
		frame(),
		cells(10, 10, 10, "##", "##"),
		full(10, 0, 0, 3, 3),
	}
}

// P4.3: the cells that one of the layers above or below does not cover.
func TestSolid(t *testing.T) {
	none := cells(10, 0, 0)
	for _, c := range []struct {
		layer, top, bottom int
		want               api.Cells
	}{
		{0, 0, 0, none},
		{0, 1, 0, cells(10, 10, 10, "#")},
		{0, 2, 0, cells(10, 0, 0, "###", "##.", "#..")},
		{0, 3, 0, cells(10, 0, 0, "###", "##.", "#..")},
		{0, 4, 0, full(10, 0, 0, 3, 3)},
		{0, 0, 1, full(10, 0, 0, 3, 3)},
		{0, api.MaxStack, api.MaxStack, full(10, 0, 0, 3, 3)},
		{1, 0, 0, none},
		{1, 0, 1, none},
		{1, 0, 2, frame()},
		{1, 1, 1, cells(10, 0, 0, "###", "#..", "#..")},
		{1, 2, 1, cells(10, 0, 0, "###", "#..", "#..")},
		{1, 3, 1, frame()},
		{2, 1, 0, none},
		{2, 1, 1, cells(10, 10, 10, "#")},
		{2, 0, 2, cells(10, 10, 10, "#")},
		{3, 0, 0, none},
		{3, 0, 1, cells(10, 0, 0, "###", "#..", "#..")},
		{3, 0, 2, cells(10, 0, 0, "###", "##.", "#..")},
		{3, 1, 0, full(10, 0, 0, 3, 3)},
	} {
		if got, e := fill.Solid(pile(), c.layer, c.top, c.bottom); e != api.OK || !sameCells(got, c.want) {
			t.Error(c, got, e)
		}
	}
	for _, l := range [][]api.Cells{{none, full(10, 0, 0, 2, 2)}, {cells(10, 50, 0, "#"), full(10, 0, 0, 2, 2)}, {full(10, -edge, -edge, 2, 2), full(10, 0, 0, 2, 2)}} {
		if got, e := fill.Solid(l, 1, 0, 1); e != api.OK || !sameCells(got, full(10, 0, 0, 2, 2)) {
			t.Error(l, got, e)
		}
		if got, e := fill.Solid(l, 0, 1, 0); e != api.OK || !sameCells(got, l[0]) {
			t.Error(l, got, e)
		}
	}
}

// slowSolid asks each layer near for each cell.
func slowSolid(l []api.Cells, layer, top, bottom int) set {
	return setOf(l[layer]).kept(func(column, row int) bool {
		for i := layer - bottom; i <= layer+top; i++ {
			if i < 0 || i >= len(l) || !setOf(l[i])[[2]int{column, row}] {
				return true
			}
		}
		return false
	})
}

// randomPile has up to four layers near each other.
func randomPile(r *rand.Rand, step int) []api.Cells {
	var l []api.Cells
	column, row := r.Intn(12)-10, r.Intn(12)-10
	for range 1 + r.Intn(4) {
		l = append(l, randomSet(r, column+r.Intn(2), row+r.Intn(2)).cells(step))
	}
	return l
}

func TestSolidRandom(t *testing.T) {
	r := rand.New(rand.NewSource(7))
	some := 0
	for range 3000 {
		l, top, bottom := randomPile(r, 4), r.Intn(3), r.Intn(3)
		layer := r.Intn(len(l))
		want := slowSolid(l, layer, top, bottom)
		if len(want) > 0 && len(want) < len(setOf(l[layer])) {
			some++
		}
		if got, e := fill.Solid(l, layer, top, bottom); e != api.OK || !sameCells(got, want.cells(4)) {
			t.Fatal(l, layer, top, bottom, got, e)
		}
	}
	if some < 100 {
		t.Error(some)
	}
}

// P4.3: the errors of layers, at their bounds, and the first one of several.
func TestLayersErrors(t *testing.T) {
	one, bad, other := cells(2, 0, 0, "#"), cells(2, 0, 0, "x"), cells(4, 0, 0)
	for _, c := range []struct {
		name string
		l    []api.Cells
		e    api.Errno
	}{
		{"nothing wrong", []api.Cells{one, cells(2, 0, 0), one}, api.OK},
		{"as many as there can be", slices.Repeat([]api.Cells{one}, api.MaxStack), api.OK},
		{"too many", slices.Repeat([]api.Cells{bad}, api.MaxStack+1), api.ErrLarge},
		{"a wrong one", []api.Cells{one, bad, other}, api.ErrSyntax},
		{"a wrong first one", []api.Cells{bad, other}, api.ErrSyntax},
		{"another step", []api.Cells{one, other, bad}, api.ErrForm},
		{"another step at the end", []api.Cells{other, other, one}, api.ErrForm},
		{"no step", []api.Cells{one, {}}, api.ErrArg},
		{"another step, and wrong", []api.Cells{one, cells(4, 0, 0, "x")}, api.ErrSyntax},
	} {
		layer, number := 0, 0
		if c.e != api.OK {
			layer, number = -1, -1
		}
		if got, e := fill.Solid(c.l, layer, number, number); e != c.e || e != api.OK && !isZero(got) {
			t.Error(c.name, got, e)
		}
		if got, e := fill.Plan(c.l, api.Style{Walls: number, Every: 1}); e != c.e || e != api.OK && !isZero(got) {
			t.Error(c.name, got, e)
		}
	}
}

// P4.3: the errors of Solid, and of styles.
func TestSolidErrors(t *testing.T) {
	for _, c := range []struct {
		layer, top, bottom int
		e                  api.Errno
	}{
		{3, api.MaxStack, api.MaxStack, api.OK},
		{4, -1, 0, api.ErrNone},
		{-1, 0, -1, api.ErrNone},
		{least, 0, 0, api.ErrNone},
		{greatest, 0, 0, api.ErrNone},
		{0, -1, 0, api.ErrArg},
		{0, 0, -1, api.ErrArg},
		{0, api.MaxStack + 1, 0, api.ErrArg},
		{0, 0, api.MaxStack + 1, api.ErrArg},
		{0, greatest, least, api.ErrArg},
		{3, least, greatest, api.ErrArg},
	} {
		if got, e := fill.Solid(pile(), c.layer, c.top, c.bottom); e != c.e || e != api.OK && !isZero(got) {
			t.Error(c, got, e)
		}
	}
	if got, e := fill.Solid(nil, 0, 0, 0); e != api.ErrNone || !isZero(got) {
		t.Error(got, e)
	}
	for _, c := range []struct {
		s api.Style
		e api.Errno
	}{
		{api.Style{Every: 1}, api.OK},
		{api.Style{Walls: api.MaxWalls, Top: api.MaxStack, Bottom: api.MaxStack, Every: api.MaxGrid}, api.OK},
		{api.Style{}, api.ErrArg},
		{api.Style{Every: -1}, api.ErrArg},
		{api.Style{Every: api.MaxGrid + 1}, api.ErrArg},
		{api.Style{Every: 1, Walls: -1}, api.ErrArg},
		{api.Style{Every: 1, Walls: api.MaxWalls + 1}, api.ErrArg},
		{api.Style{Every: 1, Top: -1}, api.ErrArg},
		{api.Style{Every: 1, Top: api.MaxStack + 1}, api.ErrArg},
		{api.Style{Every: 1, Bottom: -1}, api.ErrArg},
		{api.Style{Every: 1, Bottom: api.MaxStack + 1}, api.ErrArg},
		{api.Style{Every: greatest, Walls: least, Top: greatest, Bottom: least}, api.ErrArg},
	} {
		for _, l := range [][]api.Cells{nil, pile()} {
			if got, e := fill.Plan(l, c.s); e != c.e || e != api.OK && !isZero(got) {
				t.Error(c, got, e)
			}
		}
	}
	// What is inside of the walls begins too far away, or what is solid does, or the rest.
	for _, c := range []struct {
		l []api.Cells
		s api.Style
	}{
		{[]api.Cells{full(2, edge, 0, 3, 3)}, api.Style{Walls: 1, Every: 1}},
		{[]api.Cells{full(2, edge, 0, 3, 3), full(2, edge, 0, 1, 3)}, api.Style{Top: 1, Every: 1}},
		{[]api.Cells{full(2, edge, 0, 2, 1), cells(2, edge, 0, ".#", "##")}, api.Style{Top: 1, Every: 1}},
	} {
		if got, e := fill.Plan(c.l, c.s); e != api.ErrArg || !isZero(got) {
			t.Error(c, got, e)
		}
	}
	if got, e := fill.Solid([]api.Cells{full(2, edge, 0, 3, 3), full(2, edge, 0, 1, 3)}, 0, 1, 0); e != api.ErrArg || !isZero(got) {
		t.Error(got, e)
	}
}

// P4.3: walls, then what is solid, then the rest.
func TestPlan(t *testing.T) {
	got, e := fill.Plan(pile(), api.Style{Top: 1, Bottom: 0, Every: 2})
	want := []api.Filling{
		{Solid: cells(10, 10, 10, "#"), Sparse: frame()},
		{Solid: cells(10, 0, 0, "###", "#..", "#.."), Sparse: cells(10, 20, 10, "#", "#")},
		{Solid: cells(10, 0, 0), Sparse: cells(10, 10, 10, "##", "##")},
		{Solid: full(10, 0, 0, 3, 3), Sparse: cells(10, 0, 0)},
	}
	want[1].Sparse = cells(10, 10, 10, ".#", "##")
	if e != api.OK || !slices.EqualFunc(got, want, sameFilling) {
		t.Error(got, e)
	}
	// A layer that covers all inside of the walls makes nothing solid, even if it does not cover the walls.
	got, e = fill.Plan([]api.Cells{full(10, 0, 0, 5, 5), full(10, 10, 10, 3, 3)}, api.Style{Walls: 1, Top: 1, Every: 2})
	want = []api.Filling{
		{Walls: slowWalls(setOf(full(10, 0, 0, 5, 5)), 1, 10), Solid: cells(10, 0, 0), Sparse: full(10, 10, 10, 3, 3)},
		{Walls: slowWalls(setOf(full(10, 10, 10, 3, 3)), 1, 10), Solid: cells(10, 20, 20, "#"), Sparse: cells(10, 0, 0)},
	}
	if e != api.OK || !slices.EqualFunc(got, want, sameFilling) {
		t.Error(got, e)
	}
	if got, e := fill.Plan(nil, api.Style{Every: 1}); e != api.OK || len(got) != 0 {
		t.Error(got, e)
	}
}

func sameFilling(a, b api.Filling) bool {
	return slices.EqualFunc(a.Walls, b.Walls, sameCells) && sameCells(a.Solid, b.Solid) && sameCells(a.Sparse, b.Sparse)
}

// P4.3: what follows: a filling has each cell of its layer once, and more walls make nothing solid that was a wall.
func TestPlanRandom(t *testing.T) {
	r := rand.New(rand.NewSource(8))
	some := 0
	for range 2000 {
		l, s := randomPile(r, 4), api.Style{Walls: r.Intn(4), Top: r.Intn(3), Bottom: r.Intn(3), Every: 1 + r.Intn(9)}
		plan, e := fill.Plan(l, s)
		if e != api.OK || len(plan) != len(l) {
			t.Fatal(l, s, plan, e)
		}
		more := s
		more.Walls++
		next, _ := fill.Plan(l, more)
		for i, f := range plan {
			all := setOf(l[i])
			inside := all.shrunk(s.Walls)
			sparse := inside.minus(slowSolid(l, i, s.Top, s.Bottom))
			want := api.Filling{Walls: slowWalls(all, s.Walls, 4), Solid: inside.minus(sparse).cells(4), Sparse: sparse.cells(4)}
			if !sameFilling(f, want) {
				t.Fatal(l, s, i, f)
			}
			if got, e := fill.Whole(f); e != api.OK || !sameCells(got, l[i]) {
				t.Fatal(f, got, e)
			}
			if len(setOf(next[i].Solid).minus(setOf(f.Solid))) > 0 {
				t.Fatal(f, next[i])
			}
			if len(f.Solid.Rows) > 0 && len(f.Sparse.Rows) > 0 {
				some++
			}
		}
	}
	if some < 100 {
		t.Error(some)
	}
}

// filling has walls, what is solid, and what is sparse.
func filling(solid, sparse api.Cells, walls ...api.Cells) api.Filling {
	return api.Filling{Walls: walls, Solid: solid, Sparse: sparse}
}

// P4.3: all cells of a filling.
func TestWhole(t *testing.T) {
	none := cells(2, 0, 0)
	for _, c := range []struct {
		f    api.Filling
		want api.Cells
	}{
		{filling(none, none), none},
		{filling(none, none, none, none), none},
		{filling(cells(2, 4, 0, "#"), none), cells(2, 4, 0, "#")},
		{filling(none, cells(2, 4, 0, "#")), cells(2, 4, 0, "#")},
		{filling(none, none, cells(2, 4, -6, "#")), cells(2, 4, -6, "#")},
		{filling(cells(2, 2, 2, "#"), cells(2, 4, 2, "#"), cells(2, 0, 0, "####", "#..#", "####"), none, cells(2, 10, 0, "#")), cells(2, 0, 0, "####.#", "####..", "####..")},
		{filling(none, cells(2, 398, 398, "#"), cells(2, 0, 0, "#")), ends(200, 200)},
	} {
		if got, e := fill.Whole(c.f); e != api.OK || !sameCells(got, c.want) {
			t.Errorf("%v: %.200v %v", c.f, got, e)
		}
	}
	// A filling by hand can have more walls than others have.
	var many []api.Cells
	for i := range api.MaxGrid * api.MaxGrid {
		many = append(many, cells(2, i%200*2, i/200*2, "#"))
	}
	if got, e := fill.Whole(filling(none, none, many...)); e != api.OK || !sameCells(got, full(2, 0, 0, 200, 200)) {
		t.Error(len(got.Rows), e)
	}
}

// ends are two cells at the ends of a box.
func ends(columns, rows int) api.Cells {
	return set{{0, 0}: true, {columns - 1, rows - 1}: true}.cells(2)
}

// P4.3: the errors of Whole, in their order.
func TestWholeErrors(t *testing.T) {
	one, none, bad, other := cells(2, 0, 0, "#"), cells(2, 0, 0), cells(2, 0, 0, "x"), cells(4, 0, 0)
	for _, c := range []struct {
		name string
		f    api.Filling
		e    api.Errno
	}{
		{"nothing", api.Filling{}, api.ErrArg},
		{"a wrong wall, before all else", filling(cells(2, 0, 0, "."), other, one, one, bad), api.ErrSyntax},
		{"solid cells that are wrong", filling(bad, cells(2, 0, 0, "."), one, one, other), api.ErrSyntax},
		{"sparse cells that are wrong", filling(other, cells(2, 0, 0, "."), one, one), api.ErrForm},
		{"another step of a wall", filling(none, none, one, other, one), api.ErrForm},
		{"another step of the solid cells", filling(other, none, one, one), api.ErrForm},
		{"another step of the sparse cells", filling(one, other, one), api.ErrForm},
		{"another step without walls", filling(none, other), api.ErrForm},
		{"the first wall has another step", filling(none, none, other), api.ErrForm},
		{"a cell twice in walls", filling(none, none, one, none, one), api.ErrConflict},
		{"a cell in a wall and the solid cells", filling(cells(2, 0, 0, "##"), none, cells(2, 2, 0, "##")), api.ErrConflict},
		{"a cell in a wall and the sparse cells", filling(none, cells(2, 0, 0, "##"), cells(2, 2, 0, "##")), api.ErrConflict},
		{"a cell in the solid and the sparse cells", filling(one, one), api.ErrConflict},
		{"a cell twice, and too far apart", filling(one, one, cells(2, 400, 0, "#")), api.ErrConflict},
		{"as far apart as can be", filling(one, cells(2, 398, 0, "#")), api.OK},
		{"too far apart in X", filling(one, cells(2, 400, 0, "#")), api.ErrFull},
		{"too far apart in Y", filling(none, one, cells(2, 0, -400, "#")), api.ErrFull},
		{"much too far apart", filling(none, none, cells(2, -edge, edge, "#"), cells(2, edge, -edge, "#")), api.ErrFull},
		{"as far away as can be", filling(cells(2, edge, edge, "##"), cells(2, edge, edge, ".#", "#.")), api.ErrConflict},
	} {
		if got, e := fill.Whole(c.f); e != c.e || e != api.OK && !isZero(got) {
			t.Error(c.name, got, e)
		}
	}
}

// P4.4: the parts with nothing below, each with its direction.
func TestBridges(t *testing.T) {
	none := cells(10, 0, 0)
	for _, c := range []struct {
		name     string
		below, c api.Cells
		want     []api.Bridge
	}{
		{"no cells", none, none, nil},
		{"all covered", full(10, 0, 0, 3, 3), frame(), nil},
		{"nothing below", none, full(10, -10, -10, 3, 2), []api.Bridge{{Part: full(10, -10, -10, 3, 2), Quarter: 1, Long: 2}}},
		{"two pillars", cells(10, 0, 0, "#...#", "#...#"), full(10, 0, 0, 5, 2), []api.Bridge{{Part: full(10, 10, 0, 3, 2), Quarter: 1, Long: 2}}},
		{"several parts", cells(10, 10, 0, "#", "#", "#"), cells(10, 0, 0, "###", "##.", "###"), []api.Bridge{
			{Part: cells(10, 0, 0, "#", "#", "#"), Quarter: 0, Long: 1},
			{Part: cells(10, 20, 0, "#"), Quarter: 0, Long: 1},
			{Part: cells(10, 20, 20, "#"), Quarter: 0, Long: 1},
		}},
		{"cells below that are far away", cells(10, edge, edge, "#"), cells(10, -edge, -edge, "##"), []api.Bridge{{Part: cells(10, -edge, -edge, "##"), Quarter: 1, Long: 1}}},
	} {
		if got, e := fill.Bridges(c.below, c.c); e != api.OK || !slices.EqualFunc(got, c.want, sameBridge) {
			t.Error(c.name, got, e)
		}
	}
}

func sameBridge(a, b api.Bridge) bool {
	return sameCells(a.Part, b.Part) && a.Quarter == b.Quarter && a.Long == b.Long
}

func TestBridgesRandom(t *testing.T) {
	r := rand.New(rand.NewSource(9))
	several := 0
	for range 2000 {
		l := append(randomPile(r, 4), randomPile(r, 4)...)[:2]
		var want []api.Bridge
		for _, part := range setOf(l[1]).minus(setOf(l[0])).parts() {
			c := part.cells(4)
			quarter, long, _ := fill.Quarter(c)
			want = append(want, api.Bridge{Part: c, Quarter: quarter, Long: long})
		}
		if len(want) > 2 {
			several++
		}
		if got, e := fill.Bridges(l[0], l[1]); e != api.OK || !slices.EqualFunc(got, want, sameBridge) {
			t.Fatal(l, got, e)
		}
	}
	if several < 200 {
		t.Error(several)
	}
}

// P4.4: the errors of Bridges, in their order.
func TestBridgesErrors(t *testing.T) {
	for _, c := range []struct {
		below, c api.Cells
		e        api.Errno
	}{
		{cells(2, 0, 0, "."), cells(3, 0, 0, "#"), api.ErrForm},
		{cells(3, 0, 0, "#"), cells(2, 0, 0, "x"), api.ErrArg},
		{cells(4, 0, 0, "#"), cells(2, 0, 0, "x"), api.ErrSyntax},
		{cells(4, 0, 0, "#"), cells(2, 0, 0, "#"), api.ErrForm},
		{cells(4, 0, 0), cells(2, 0, 0), api.ErrForm},
		{cells(2, edge, 0, "#"), cells(2, edge, 0, "##"), api.ErrArg},
		{cells(2, edge, 0, ".#.", "###"), cells(2, edge, 0, "###"), api.ErrArg},
	} {
		if got, e := fill.Bridges(c.below, c.c); e != c.e || len(got) > 0 {
			t.Error(c, got, e)
		}
	}
}
