package raster_test

import (
	"reflect"
	"slices"
	"strings"
	"testing"

	"beadlayer/api"
	"beadlayer/raster"
)

const edge = 2_000_000

func place(column, row int) raster.Place { return raster.Place{Column: column, Row: row} }

func box(left, low, right, high int) raster.Box {
	return raster.Box{Left: left, Low: low, Right: right, High: high}
}

func TestCheck(t *testing.T) {
	for _, c := range []struct {
		c api.Cells
		e api.Errno
	}{
		{api.Cells{}, api.ErrArg},
		{api.Cells{Step: 2}, api.OK},
		{api.Cells{Step: 2, X: 2}, api.ErrForm},
		{api.Cells{Step: 2, X: edge, Y: -edge, Rows: []string{"#.", ".#"}}, api.OK},
		{api.Cells{Step: 2, X: edge + 2, Rows: []string{"#"}}, api.ErrArg},
		{api.Cells{Step: 2, Rows: []string{"#", "##"}}, api.ErrForm},
		{api.Cells{Step: 2, Rows: []string{"#x"}}, api.ErrSyntax},
		{api.Cells{Step: 2, Rows: []string{"#."}}, api.ErrForm},
		{api.Cells{Step: 2, Rows: []string{strings.Repeat("#", api.MaxGrid+1)}}, api.ErrLarge},
	} {
		if e := raster.Check(c.c); e != c.e {
			t.Error(c, e)
		}
	}
}

func TestIsStep(t *testing.T) {
	for _, step := range []int{2, 4, api.MaxStep} {
		if !raster.IsStep(step) {
			t.Error(step)
		}
	}
	for _, step := range []int{-1 << 63, -2, 0, 1, 3, api.MaxStep - 1, api.MaxStep + 2, 1<<63 - 1} {
		if raster.IsStep(step) {
			t.Error(step)
		}
	}
}

func TestBoxes(t *testing.T) {
	if b := raster.BoxOf(api.Cells{Step: 4, X: 20, Y: -12, Rows: []string{"#.#", "..#"}}); b != box(5, -3, 8, -1) {
		t.Error(b)
	}
	if b := raster.BoxOf(api.Cells{Step: 4}); b != box(0, 0, 0, 0) {
		t.Error(b)
	}
	for _, c := range [][3]raster.Box{
		{box(1, 2, 3, 4), box(5, -1, 6, 3), box(1, -1, 6, 4)},
		{box(1, 2, 3, 4), {}, box(1, 2, 3, 4)},
		{box(1, 2, 9, 9), box(2, 3, 4, 5), box(1, 2, 9, 9)},
		{{}, {}, {}},
	} {
		if got, back := c[0].Joined(c[1]), c[1].Joined(c[0]); got != c[2] || back != c[2] {
			t.Error(c, got, back)
		}
	}
	if b := box(1, 2, 3, 4).Wider(2); b != box(-1, 0, 5, 6) {
		t.Error(b)
	}
	if p := place(1, 2).Next(place(-3, 5)); p != place(-2, 7) {
		t.Error(p)
	}
}

func TestPlaces(t *testing.T) {
	b := box(-1, 2, 1, 4)
	want := []raster.Place{place(-1, 2), place(0, 2), place(-1, 3), place(0, 3)}
	if got := slices.Collect(b.Places()); !slices.Equal(got, want) {
		t.Error(got)
	}
	for p := range b.Places() {
		if p == place(0, 2) {
			break
		}
	}
	for p := range b.Wider(2).Places() {
		if b.Has(p) != slices.Contains(want, p) {
			t.Error(p)
		}
	}
}

func TestCovers(t *testing.T) {
	covers := raster.Covers(api.Cells{Step: 4, X: 20, Y: -12, Rows: []string{"#.#", "..#"}})
	for p := range box(0, -9, 12, 9).Places() {
		if covers(p) != slices.Contains([]raster.Place{place(5, -3), place(7, -3), place(7, -2)}, p) {
			t.Error(p)
		}
	}
	if raster.Covers(api.Cells{Step: 4})(place(0, 0)) {
		t.Error("no cells cover something")
	}
}

func TestDrawn(t *testing.T) {
	for _, c := range []struct {
		rows []string
		want api.Cells
	}{
		{nil, api.Cells{Step: 4}},
		{[]string{"", ""}, api.Cells{Step: 4}},
		{[]string{"...", "..."}, api.Cells{Step: 4}},
		{[]string{"#"}, api.Cells{Step: 4, X: 20, Y: -12, Rows: []string{"#"}}},
		{[]string{"....", ".#..", "....", "..#.", "....", "...."}, api.Cells{Step: 4, X: 24, Y: -8, Rows: []string{"#.", "..", ".#"}}},
		{[]string{"..#.", ".#.."}, api.Cells{Step: 4, X: 24, Y: -12, Rows: []string{".#", "#."}}},
		{[]string{".#.#", "...."}, api.Cells{Step: 4, X: 24, Y: -12, Rows: []string{"#.#"}}},
	} {
		b := box(5, -3, 5, -3+len(c.rows))
		if len(c.rows) > 0 {
			b.Right += len(c.rows[0])
		}
		got, e := raster.Drawn(4, b, func(p raster.Place) bool { return c.rows[p.Row+3][p.Column-5] == '#' })
		if e != api.OK || !reflect.DeepEqual(got, c.want) {
			t.Error(c, got, e)
		}
	}
}

func TestDrawnErrors(t *testing.T) {
	for _, c := range []struct {
		b raster.Box
		e api.Errno
	}{
		{box(0, 0, 200, 200), api.OK},
		{box(0, 0, 201, 1), api.ErrFull},
		{box(0, 0, 1, 201), api.ErrFull},
		{box(-edge/2, edge/2, -edge/2+2, edge/2+2), api.OK},
		{box(-edge/2-1, 0, 0, 1), api.ErrFull},
		{box(-edge/2-1, 0, -edge/2, 1), api.ErrArg},
		{box(0, edge/2+1, 1, edge/2+2), api.ErrArg},
	} {
		got, e := raster.Drawn(2, c.b, func(raster.Place) bool { return true })
		if e != c.e || e != api.OK && !reflect.DeepEqual(got, api.Cells{}) {
			t.Errorf("%v: %.200v %v", c, got, e)
		}
	}
}
