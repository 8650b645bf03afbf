package polygon_test

import (
	"testing"

	"beadlayer/api"
	"beadlayer/polygon"
)

func TestTurn(t *testing.T) {
	const far = api.MaxCoordinate
	for _, c := range []struct {
		line api.Ring
		want int
	}{
		{ring(0, 0, 4, 2, 2, 2), 1},
		{ring(0, 0, 4, 2, 2, 1), 0},
		{ring(0, 0, 4, 2, 8, 4), 0},
		{ring(0, 0, 4, 2, -2, -1), 0},
		{ring(0, 0, 4, 2, 2, 0), -1},
		{ring(4, 2, 0, 0, 2, 0), 1},
		{ring(-far, -far, far, far, -far, far), 1},
		{ring(-far, -far, far, far, far-1, far-2), -1},
	} {
		if got := polygon.Turn(c.line[0], c.line[1], c.line[2]); got != c.want {
			t.Error(c, got)
		}
	}
}

func TestDoubled(t *testing.T) {
	const far = api.MaxCoordinate
	for _, c := range []struct {
		r    api.Ring
		want int
	}{
		{nil, 0},
		{ring(0, 0, 4, 0, 0, 3), 12},
		{ring(0, 0, 0, 3, 4, 0), -12},
		{ring(-5, 7, -1, 7, -5, 10), 12},
		{ring(0, 0, 4, 0, 2, 0), 0},
		{square(-far, -far, 2*far), 8 * far * far},
	} {
		if got := polygon.Doubled(c.r); got != c.want {
			t.Error(c, got)
		}
	}
}

func TestInRange(t *testing.T) {
	const far = api.MaxCoordinate
	for _, p := range []api.Point{{X: far, Y: far}, {X: -far, Y: -far}, {}} {
		if !polygon.InRange(p) {
			t.Error(p)
		}
	}
	for _, n := range []int{far + 1, -far - 1, least, greatest} {
		if polygon.InRange(api.Point{X: n}) || polygon.InRange(api.Point{Y: n}) {
			t.Error(n)
		}
		if polygon.InRange(api.Point{X: n}, api.Point{}) || polygon.InRange(api.Point{}, api.Point{Y: n}) {
			t.Error("of two points", n)
		}
	}
	if !polygon.InRange() || !polygon.InRange(api.Point{X: far}, api.Point{Y: -far}) {
		t.Error("no points, or two of them")
	}
}

func TestMeeting(t *testing.T) {
	r := []api.Ring{square(0, 0, 10), ring(4, 4, 4, 6, 6, 6, 6, 4)}
	for _, c := range []struct {
		way  api.Ring
		want int
	}{
		{ring(-2, 5, 12, 5), 4},
		{ring(2, 5, 5, 5), 1},
		{ring(-1, -1, 11, 11), 8},
		{ring(1, 1, 9, 3), 0},
		{ring(10, 0, 14, 0), 2},
		{ring(11, 0, 14, 0), 0},
		{ring(10, 5, 10, 5), 1},
		{ring(6, 6, 6, 6), 2},
		{ring(12, 10, 12, 10), 0},
		{ring(5, 5, 5, 5), 0},
	} {
		if got := polygon.Meeting(r, c.way[0], c.way[1]); got != c.want {
			t.Error(c, got)
		}
	}
	if got := polygon.Meeting(nil, api.Point{}, api.Point{X: 1}); got != 0 {
		t.Error(got)
	}
}
