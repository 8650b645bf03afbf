package region

import (
	"strconv"
	"strings"

	"beadlayer/api"
	"beadlayer/terms"
)

// ringWord is the line before the corners of a ring.
const ringWord = "ring"

// Text writes a region.
func Text(r []api.Ring) (string, api.Errno) {
	if e := CheckRegion(r); e != api.OK {
		return "", e
	}
	var text strings.Builder
	for _, ring := range r {
		text.WriteString(ringWord + "\n")
		for _, p := range ring {
			text.WriteString(strconv.Itoa(p.X) + " " + strconv.Itoa(p.Y) + "\n")
		}
	}
	if text.Len() > api.MaxText {
		return "", api.ErrLarge
	}
	return text.String(), api.OK
}

// Read reads a region.
func Read(text string) ([]api.Ring, int, api.Errno) {
	if len(text) > api.MaxText {
		return nil, 0, api.ErrLarge
	}
	var r []api.Ring
	wrong, ok := terms.Lines(text, func(line string) bool {
		if line == ringWord {
			r = append(r, nil)
			return true
		}
		corner, ok := readCorner(line)
		if !ok || len(r) == 0 {
			return false
		}
		r[len(r)-1] = append(r[len(r)-1], corner)
		return true
	})
	if !ok {
		return nil, wrong, api.ErrSyntax
	}
	if e := CheckRegion(r); e != api.OK {
		return nil, 0, e
	}
	return r, 0, api.OK
}

// readCorner is the corner that a line tells; false if it does not have the form.
func readCorner(line string) (api.Point, bool) {
	n, ok := terms.Numbers(strings.Split(line, " "))
	if !ok || len(n) != 2 {
		return api.Point{}, false
	}
	return api.Point{X: n[0], Y: n[1]}, true
}
