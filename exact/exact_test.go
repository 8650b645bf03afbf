package exact_test

import (
	"testing"

	"beadlayer/api"
	"beadlayer/exact"
)

func TestFloor(t *testing.T) {
	for _, c := range [][3]int{{0, 3, 0}, {5, 3, 1}, {6, 3, 2}, {-1, 3, -1}, {-3, 3, -1}, {-4, 3, -2}, {7, 1, 7}, {-7, 1, -7}, {-1 << 63, 2, -1 << 62}, {1<<63 - 1, 1<<63 - 1, 1}, {-1, 1<<63 - 1, -1}} {
		if got := exact.Floor(c[0], c[1]); got != c[2] {
			t.Error(c, got)
		}
	}
}

func TestCeil(t *testing.T) {
	for _, c := range [][3]int{{0, 3, 0}, {5, 3, 2}, {6, 3, 2}, {-1, 3, 0}, {-3, 3, -1}, {-4, 3, -1}, {7, 1, 7}, {-7, 1, -7}, {-1 << 63, 2, -1 << 62}, {-1 << 63, 1, -1 << 63}, {1<<63 - 1, 1, 1<<63 - 1}, {1<<63 - 1, 2, 1 << 62}, {1, 1<<63 - 1, 1}} {
		if got := exact.Ceil(c[0], c[1]); got != c[2] {
			t.Error(c, got)
		}
	}
}

// Half up, below 0, too.
func TestRounded(t *testing.T) {
	for _, c := range [][3]int{
		{0, 1, 0}, {1, 2, 1}, {-1, 2, 0}, {3, 2, 2}, {-3, 2, -1}, {1, 3, 0}, {2, 3, 1}, {-1, 3, 0}, {-2, 3, -1}, {-4, 3, -1}, {-5, 3, -2}, {7, 4, 2}, {5, 4, 1}, {-5, 4, -1}, {-7, 4, -2},
		{9, 1, 9}, {-9, 1, -9}, {1<<63 - 1, 1<<63 - 1, 1}, {1<<62 - 1, 1<<63 - 1, 0}, {1 << 62, 1<<63 - 1, 1},
	} {
		if got := exact.Rounded(api.Fraction{Num: c[0], Den: c[1]}); got != c[2] {
			t.Error(c, got)
		}
	}
}

func TestLowest(t *testing.T) {
	for _, c := range [][4]int{{0, 5, 0, 1}, {6, 4, 3, 2}, {-6, 4, -3, 2}, {4, 6, 2, 3}, {-4, 6, -2, 3}, {7, 7, 1, 1}, {-7, 7, -1, 1}, {5, 1, 5, 1}, {-1 << 63, 2, -1 << 62, 1}, {-1 << 63, 3, -1 << 63, 3}} {
		if got := exact.Lowest(c[0], c[1]); got != (api.Fraction{Num: c[2], Den: c[3]}) {
			t.Error(c, got)
		}
	}
}
