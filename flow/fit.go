package flow

import (
	"cmp"
	"slices"

	"beadlayer/api"
	"beadlayer/terms"
)

// maxPrint is how much filament one print needs at most.
const maxPrint = 1_000_000_000_000

// noPacking is the number of spools for a set that cannot be put on any: more than a packing uses, so that each packing is better.
const noPacking = api.MaxSpools + 1

// checkMaterial validates spools, and a material.
func checkMaterial(s []api.Spool, material string) api.Errno {
	if e := CheckSpools(s); e != api.OK {
		return e
	}
	if !terms.IsKey(material) {
		return api.ErrName
	}
	return api.OK
}

func checkNeeds(needs []int) api.Errno {
	if len(needs) > api.MaxNeeds {
		return api.ErrLarge
	}
	for _, need := range needs {
		if !terms.Within(need, 1, api.MaxFilament) {
			return api.ErrArg
		}
	}
	return api.OK
}

// packing is how a set of needs is put on spools: on how many, and the index of the spool for each need (0 for those that are not in the set).
type packing struct {
	spools int
	on     [api.MaxNeeds]int
}

// better is the packing with fewer spools, or with smaller indices.
func better(a, b packing) packing {
	if cmp.Or(cmp.Compare(a.spools, b.spools), slices.Compare(a.on[:], b.on[:])) <= 0 {
		return a
	}
	return b
}

// with is a packing to which a set of needs is added, on one further spool.
func (p packing) with(set, spool int) packing {
	p.spools++
	for i := range p.on {
		if set>>i&1 == 1 {
			p.on[i] = spool
		}
	}
	return p
}

// sumsOf tells for each set of needs what they need together.
func sumsOf(needs []int) []int {
	sums := []int{0}
	for _, need := range needs {
		for _, sum := range slices.Clone(sums) {
			sums = append(sums, sum+need)
		}
	}
	return sums
}

// bestPackings tells for each set of needs the best packing on spools of a material. Sets are numbers: bit i is for the need i.
func bestPackings(s []api.Spool, material string, needs []int) []packing {
	sums := sumsOf(needs)
	best := slices.Repeat([]packing{{spools: noPacking}}, len(sums))
	best[0] = packing{}
	for i, spool := range s {
		if spool.Material == material {
			best = withSpool(best, i, func(set int) bool { return sums[set] <= spool.Left })
		}
	}
	return best
}

// withSpool tells the best packings if there is one further spool. What is best for the rest of a set is best with each part of it on that spool, too: so no other packings have to be kept.
func withSpool(best []packing, spool int, fits func(set int) bool) []packing {
	next := slices.Clone(best)
	for part := 1; part < len(best); part++ {
		if !fits(part) {
			continue
		}
		for set := part; set < len(best); set = (set + 1) | part {
			next[set] = better(next[set], best[set&^part].with(part, spool))
		}
	}
	return next
}

// Fits puts needs on as few spools as possible.
func Fits(s []api.Spool, material string, needs []int) ([]int, bool, api.Errno) {
	if e := checkMaterial(s, material); e != api.OK {
		return nil, false, e
	}
	if e := checkNeeds(needs); e != api.OK {
		return nil, false, e
	}
	best := bestPackings(s, material, needs)
	all := best[len(best)-1]
	if all.spools == noPacking {
		return nil, false, api.OK
	}
	return slices.Clone(all.on[:len(needs)]), true, api.OK
}

// together is how much is on the fullest spools, so many of them.
func together(s []api.Spool, count int) int {
	var left []int
	for _, spool := range s {
		left = append(left, spool.Left)
	}
	slices.Sort(left)
	sum := 0
	for _, most := range left[len(left)-min(count, len(left)):] {
		sum += most
	}
	return sum
}

// Changes are the spools that one print needs.
func Changes(s []api.Spool, material string, need int) ([]string, bool, api.Errno) {
	if e := checkMaterial(s, material); e != api.OK {
		return nil, false, e
	}
	if !terms.Within(need, 0, maxPrint) {
		return nil, false, api.ErrArg
	}
	others := func(spool api.Spool) bool { return spool.Material != material }
	usable := slices.DeleteFunc(slices.Clone(s), others)
	if together(usable, len(usable)) < need {
		return nil, false, api.OK
	}
	fewest := 0
	for together(usable, fewest) < need {
		fewest++
	}
	return firstEnough(usable, fewest, need), true, api.OK
}

// firstEnough are the keys of so many spools with enough together, which are as early as possible; with fewer spools there is not enough.
func firstEnough(s []api.Spool, count, need int) []string {
	var keys []string
	for i, spool := range s {
		if count > 0 && spool.Left+together(s[i+1:], count-1) >= need {
			keys = append(keys, spool.Key)
			need -= spool.Left
			count--
		}
	}
	return keys
}
