// Package points has lists of points as text. Several chapters write rings or paths in this way: so it is below them.
package points

import (
	"slices"
	"strconv"
	"strings"

	"beadlayer/api"
	"beadlayer/terms"
)

// List is points, with the word of the line before them.
type List struct {
	Word   string
	Points []api.Point
}

// Text writes lists: a line with the word of each one, followed by a line with X and Y for each point.
func Text(lists []List) (string, api.Errno) {
	var text strings.Builder
	for _, list := range lists {
		text.WriteString(list.Word + "\n")
		for _, p := range list.Points {
			text.WriteString(strconv.Itoa(p.X) + " " + strconv.Itoa(p.Y) + "\n")
		}
	}
	return terms.Bounded(text.String())
}

// Read returns the lists with this Text, each with one of some words; the int is the number of the line for ErrSyntax.
func Read(text string, words ...string) ([]List, int, api.Errno) {
	var lists []List
	wrong, e := terms.Lines(text, func(line string) bool {
		if slices.Contains(words, line) {
			lists = append(lists, List{Word: line})
			return true
		}
		p, ok := readPoint(line)
		if !ok || len(lists) == 0 {
			return false
		}
		last := &lists[len(lists)-1]
		last.Points = append(last.Points, p)
		return true
	})
	if e != api.OK {
		return nil, wrong, e
	}
	return lists, 0, api.OK
}

// readPoint is the point that a line tells; false if it does not have the form.
func readPoint(line string) (api.Point, bool) {
	n, ok := terms.Numbers(strings.Split(line, " "))
	if !ok || len(n) != 2 {
		return api.Point{}, false
	}
	return api.Point{X: n[0], Y: n[1]}, true
}
