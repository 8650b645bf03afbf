package flow

import (
	"slices"
	"strings"

	"beadlayer/api"
	"beadlayer/terms"
)

// CheckSpools validates spools.
func CheckSpools(s []api.Spool) api.Errno {
	if len(s) > api.MaxSpools {
		return api.ErrLarge
	}
	for i, spool := range s {
		if !terms.IsKey(spool.Key) || !terms.IsKey(spool.Material) {
			return api.ErrName
		}
		if !terms.Within(spool.Left, 0, api.MaxFilament) {
			return api.ErrArg
		}
		if i > 0 && spool.Key <= s[i-1].Key {
			return api.ErrOrder
		}
	}
	return api.OK
}

// place is the index of the spool with a key; false if there is none.
func place(s []api.Spool, key string) (int, bool) {
	return slices.BinarySearchFunc(s, key, func(spool api.Spool, key string) int { return strings.Compare(spool.Key, key) })
}

// checkDraw validates a draw. Whether its spool is one, and what is wrong otherwise, differs between those who ask.
func checkDraw(d api.Draw, isSpool func(key string) bool, otherwise api.Errno) api.Errno {
	if !terms.IsMoment(d.At) {
		return api.ErrArg
	}
	if !isSpool(d.Spool) {
		return otherwise
	}
	if d.Long == 0 || !terms.Within(d.Long, -api.MaxFilament, api.MaxFilament) {
		return api.ErrArg
	}
	return api.OK
}

// checkDraws validates spools, and draws from them.
func checkDraws(s []api.Spool, d []api.Draw) api.Errno {
	if e := CheckSpools(s); e != api.OK {
		return e
	}
	if len(d) > api.MaxBeads {
		return api.ErrLarge
	}
	isThere := func(key string) bool {
		_, is := place(s, key)
		return is
	}
	for i, draw := range d {
		if e := checkDraw(draw, isThere, api.ErrNone); e != api.OK {
			return e
		}
		if i > 0 && draw.At < d[i-1].At {
			return api.ErrOrder
		}
	}
	return api.OK
}

// drawn does valid draws in order: what is left on each spool after all of them, and the indices of those that are refused.
func drawn(s []api.Spool, d []api.Draw) ([]int, []int) {
	var left, refused []int
	for _, spool := range s {
		left = append(left, spool.Left)
	}
	for i, draw := range d {
		from, _ := place(s, draw.Spool)
		rest := left[from] - draw.Long
		if terms.Within(rest, 0, api.MaxFilament) {
			left[from] = rest
		} else {
			refused = append(refused, i)
		}
	}
	return left, refused
}

// Left is what is left on each spool.
func Left(s []api.Spool, d []api.Draw, at int) ([]int, api.Errno) {
	if e := checkDraws(s, d); e != api.OK {
		return nil, e
	}
	if !terms.IsMoment(at) {
		return nil, api.ErrArg
	}
	later := slices.IndexFunc(d, func(draw api.Draw) bool { return draw.At > at })
	if later >= 0 {
		d = d[:later]
	}
	left, _ := drawn(s, d)
	return left, api.OK
}

// Refused are the draws that are refused.
func Refused(s []api.Spool, d []api.Draw) ([]int, api.Errno) {
	if e := checkDraws(s, d); e != api.OK {
		return nil, e
	}
	_, refused := drawn(s, d)
	return refused, api.OK
}
