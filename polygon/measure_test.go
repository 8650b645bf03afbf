package polygon_test

import (
	"testing"

	"beadlayer/api"
	"beadlayer/polygon"
)

func TestTurn(t *testing.T) {
	const far = api.MaxCoordinate
	for _, c := range []struct {
		line api.Ring
		want int
	}{
		{ring(0, 0, 4, 2, 2, 2), 1},
		{ring(0, 0, 4, 2, 2, 1), 0},
		{ring(0, 0, 4, 2, 8, 4), 0},
		{ring(0, 0, 4, 2, -2, -1), 0},
		{ring(0, 0, 4, 2, 2, 0), -1},
		{ring(4, 2, 0, 0, 2, 0), 1},
		{ring(-far, -far, far, far, -far, far), 1},
		{ring(-far, -far, far, far, far-1, far-2), -1},
	} {
		if got := polygon.Turn(c.line[0], c.line[1], c.line[2]); got != c.want {
			t.Error(c, got)
		}
	}
}

func TestDoubled(t *testing.T) {
	const far = api.MaxCoordinate
	for _, c := range []struct {
		r    api.Ring
		want int
	}{
		{nil, 0},
		{ring(0, 0, 4, 0, 0, 3), 12},
		{ring(0, 0, 0, 3, 4, 0), -12},
		{ring(-5, 7, -1, 7, -5, 10), 12},
		{ring(0, 0, 4, 0, 2, 0), 0},
		{square(-far, -far, 2*far), 8 * far * far},
	} {
		if got := polygon.Doubled(c.r); got != c.want {
			t.Error(c, got)
		}
	}
}

func TestInRange(t *testing.T) {
	const far = api.MaxCoordinate
	for _, p := range []api.Point{{X: far, Y: far}, {X: -far, Y: -far}, {}} {
		if !polygon.InRange(p) {
			t.Error(p)
		}
	}
	for _, n := range []int{far + 1, -far - 1, least, greatest} {
		if polygon.InRange(api.Point{X: n}) || polygon.InRange(api.Point{Y: n}) {
			t.Error(n)
		}
	}
}
