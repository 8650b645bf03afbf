package points_test

import (
	"reflect"
	"slices"
	"strings"
	"testing"

	"beadlayer/api"
	"beadlayer/points"
)

func same(a, b []points.List) bool {
	return slices.EqualFunc(a, b, func(x, y points.List) bool { return x.Word == y.Word && slices.Equal(x.Points, y.Points) })
}

func TestTextAndRead(t *testing.T) {
	for _, c := range []struct {
		lists []points.List
		text  string
	}{
		{nil, ""},
		{[]points.List{{Word: "a"}}, "a\n"},
		{[]points.List{{Word: "b", Points: []api.Point{{X: 1, Y: -2}, {X: 999_999_999_999_999}}}, {Word: "a"}, {Word: "b", Points: []api.Point{{}}}}, "b\n1 -2\n999999999999999 0\na\nb\n0 0\n"},
	} {
		if text, e := points.Text(c.lists); e != api.OK || text != c.text {
			t.Errorf("%v %q %v", c.lists, text, e)
		}
		if lists, n, e := points.Read(c.text, "a", "b"); e != api.OK || n != 0 || !same(lists, c.lists) {
			t.Errorf("%q %v %v %v", c.text, lists, n, e)
		}
	}
}

func TestReadForm(t *testing.T) {
	for _, c := range []struct {
		text string
		line int
	}{
		{"c\n", 0}, {"a", 0}, {"ab\n", 0}, {"1 2\n", 0}, {"a\n1 2", 1}, {"a\n1\n", 1}, {"a\n1 2 3\n", 1}, {"a\n1 02\n", 1}, {"a\n1 2\nb\nB\n1 2", 3}, {"a\n1000000000000000 1\n", 1},
	} {
		if lists, n, e := points.Read(c.text, "a", "b"); e != api.ErrSyntax || n != c.line || len(lists) > 0 {
			t.Errorf("%q %v %v %v", c.text, lists, n, e)
		}
	}
	if lists, n, e := points.Read("a\n"); e != api.ErrSyntax || n != 0 || len(lists) > 0 {
		t.Error(lists, n, e)
	}
}

func TestLargest(t *testing.T) {
	text := strings.Repeat("a\n1 1\n2 2\n", api.MaxText/10)
	lists, n, e := points.Read(text, "a")
	if e != api.OK || n != 0 || len(lists) != api.MaxText/10 {
		t.Fatal(len(lists), n, e)
	}
	if again, e := points.Text(lists); e != api.OK || again != text {
		t.Error(len(again), e)
	}
	lists[0].Points[0].X = 10
	if again, e := points.Text(lists); e != api.ErrLarge || again != "" {
		t.Error(len(again), e)
	}
	if read, n, e := points.Read(text+"\n", "a"); e != api.ErrLarge || n != 0 || !reflect.ValueOf(read).IsZero() {
		t.Error(len(read), n, e)
	}
}
