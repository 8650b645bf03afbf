package record

import (
	"maps"
	"slices"
	"strconv"

	"beadlayer/api"
	"beadlayer/exact"
	"beadlayer/terms"
)

// pairs are names with values, by name.
func pairs[T any](all map[string]T, value func(T) string) []api.Pair {
	var list []api.Pair
	for _, name := range slices.Sorted(maps.Keys(all)) {
		list = append(list, api.Pair{Name: name, Value: value(all[name])})
	}
	return list
}

func (b *book) runningPairs() []api.Pair {
	return pairs(b.running, func(j *job) string { return j.name })
}

func (b *book) jobPairs() []api.Pair {
	return pairs(b.jobs, func(j *job) string { return j.state })
}

func (b *book) filamentPairs() []api.Pair {
	return pairs(b.loaded, func(s *spool) string { return s.name + " " + strconv.Itoa(s.left) })
}

// find is the job with a name.
func (b *book) find(name string) (*job, api.Errno) {
	if !terms.IsKey(name) {
		return nil, api.ErrName
	}
	j := b.jobs[name]
	if j == nil {
		return nil, api.ErrNone
	}
	return j, api.OK
}

func (b *book) progress(name string) (int, int, api.Errno) {
	j, e := b.find(name)
	if e != api.OK {
		return 0, 0, e
	}
	return j.printed, j.layers, api.OK
}

func (b *book) pace(name string) (api.Fraction, bool, api.Errno) {
	j, e := b.find(name)
	if e != api.OK || j.printed == 0 {
		return api.Fraction{}, false, e
	}
	return exact.Lowest(j.printedAt-j.began, j.printed), true, api.OK
}

func (b *book) used(name string) (int, api.Errno) {
	if !terms.IsKey(name) {
		return 0, api.ErrName
	}
	if s := b.spools[name]; s != nil {
		return s.used, api.OK
	}
	return 0, api.OK
}

// count is how many jobs are in a state.
func (b *book) count(state string) int {
	jobs := 0
	for _, j := range b.jobs {
		if j.state == state {
			jobs++
		}
	}
	return jobs
}
