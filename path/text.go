package path

import (
	"beadlayer/api"
	"beadlayer/points"
)

// The lines before the points of a path.
const (
	openWord   = "open"
	closedWord = "closed"
)

// Text writes paths.
func Text(p []api.Path) (string, api.Errno) {
	if e := CheckPaths(p); e != api.OK {
		return "", e
	}
	var lists []points.List
	for _, one := range p {
		word := openWord
		if one.Closed {
			word = closedWord
		}
		lists = append(lists, points.List{Word: word, Points: one.Points})
	}
	return points.Text(lists)
}

// Read reads paths.
func Read(text string) ([]api.Path, int, api.Errno) {
	lists, wrong, e := points.Read(text, openWord, closedWord)
	if e != api.OK {
		return nil, wrong, e
	}
	var p []api.Path
	for _, list := range lists {
		p = append(p, api.Path{Points: list.Points, Closed: list.Word == closedWord})
	}
	if e := CheckPaths(p); e != api.OK {
		return nil, 0, e
	}
	return p, 0, api.OK
}
