package flow_test

import (
	"math/big"
	"math/rand"
	"reflect"
	"slices"
	"testing"

	"beadlayer/api"
	"beadlayer/flow"
)

const (
	least    = -1 << 63
	greatest = 1<<63 - 1
)

// beads are told as Long, Wide, High, Long, Wide, High ..
func beads(n ...int) []api.Bead {
	var all []api.Bead
	for i := 0; i < len(n); i += 3 {
		all = append(all, api.Bead{Long: n[i], Wide: n[i+1], High: n[i+2]})
	}
	return all
}

// fullest are so many beads with the greatest volume: 250,000,000,000,000 each.
func fullest(count int) []api.Bead {
	return slices.Repeat(beads(api.MaxMove, api.MaxWide, api.MaxWide), count)
}

func list(n ...int) []int { return n }

func spool(key, material string, left int) api.Spool {
	return api.Spool{Key: key, Material: material, Left: left}
}

func draw(at int, key string, long int) api.Draw { return api.Draw{At: at, Spool: key, Long: long} }

func ratio(num, den int) api.Fraction { return api.Fraction{Num: num, Den: den} }

// keyOf is the key with a number from 0 to 99: greater numbers have greater keys.
func keyOf(i int) string { return "k" + string(rune('0'+i/10)) + string(rune('0'+i%10)) }

// spools are some of the material m with these amounts, in order.
func spools(left ...int) []api.Spool {
	var s []api.Spool
	for i, n := range left {
		s = append(s, spool(keyOf(i), "m", n))
	}
	return s
}

func randomBeads(r *rand.Rand) []api.Bead {
	long, wide := 20, 5
	if r.Intn(3) == 0 {
		long, wide = api.MaxMove, api.MaxWide
	}
	var b []api.Bead
	for range r.Intn(9) {
		b = append(b, beads(r.Intn(long+1), 1+r.Intn(wide), 1+r.Intn(wide))...)
	}
	return b
}

// randomArea is small, large, or between.
func randomArea(r *rand.Rand) int {
	return 1 + r.Intn([]int{3, 50, 2_000, api.MaxArea}[r.Intn(4)])
}

// randomSpools have a few materials, and few or much filament.
func randomSpools(r *rand.Rand, count, most int) []api.Spool {
	s := spools(make([]int, r.Intn(count+1))...)
	for i := range s {
		s[i].Left = r.Intn(most + 1)
		s[i].Material = []string{"m", "m", "m", "n"}[r.Intn(4)]
	}
	return s
}

// randomDraws are valid for spools.
func randomDraws(r *rand.Rand, s []api.Spool, most int) []api.Draw {
	var d []api.Draw
	for at := r.Intn(3); len(s) > 0 && r.Intn(30) > 0; at += r.Intn(3) {
		d = append(d, draw(at, s[r.Intn(len(s))].Key, (1+r.Intn(most))*(1-2*r.Intn(2))))
	}
	return d
}

func integer(n int) *big.Int { return big.NewInt(int64(n)) }

// volume is what P7.1 says, of any numbers.
func volume(b []api.Bead) *big.Int {
	sum := new(big.Int)
	for _, bead := range b {
		one := integer(bead.Long)
		one.Mul(one, integer(bead.Wide))
		sum.Add(sum, one.Mul(one, integer(bead.High)))
	}
	return sum
}

// lowest is a quotient in lowest terms.
func lowest(num *big.Int, den int) api.Fraction {
	q := new(big.Rat).SetFrac(num, integer(den))
	return ratio(int(q.Num().Int64()), int(q.Denom().Int64()))
}

// halfUp is a quotient that is rounded: one half more, rounded down.
func halfUp(num *big.Int, den int) int {
	twice := new(big.Int).Add(new(big.Int).Lsh(num, 1), integer(den))
	return int(twice.Div(twice, integer(2*den)).Int64())
}

func isZero(value any) bool {
	v := reflect.ValueOf(value)
	if v.Kind() == reflect.Slice {
		return v.Len() == 0
	}
	return v.IsZero()
}

// call is a function of the package, with all its arguments.
type call struct {
	name string
	run  func() ([]any, api.Errno)
}

// fails checks that calls return an error, and zero values with it.
func fails(t *testing.T, name any, e api.Errno, calls ...call) {
	t.Helper()
	for _, f := range calls {
		results, got := f.run()
		if got != e || slices.ContainsFunc(results, func(x any) bool { return !isZero(x) }) {
			t.Errorf("%.100v %s %.100v %v, not %v", name, f.name, results, got, e)
		}
	}
}

// withBeads are the functions with beads alone.
func withBeads(b []api.Bead) []call {
	return []call{
		{"CheckBeads", func() ([]any, api.Errno) { return nil, flow.CheckBeads(b) }},
		{"Volume", func() ([]any, api.Errno) { n, e := flow.Volume(b); return []any{n}, e }},
	}
}

// withArea are the functions with beads and an area.
func withArea(b []api.Bead, area, back int, at []int) []call {
	return []call{
		{"Need", func() ([]any, api.Errno) { f, e := flow.Need(b, area); return []any{f}, e }},
		{"Positions", func() ([]any, api.Errno) { l, e := flow.Positions(b, area); return []any{l}, e }},
		{"Amounts", func() ([]any, api.Errno) { l, e := flow.Amounts(b, area); return []any{l}, e }},
		retracted(b, area, back, at),
	}
}

func retracted(b []api.Bead, area, back int, at []int) call {
	return call{"Retracted", func() ([]any, api.Errno) { l, e := flow.Retracted(b, area, back, at); return []any{l}, e }}
}

func fastest(b []api.Bead, most int) call {
	return call{"Fastest", func() ([]any, api.Errno) { l, e := flow.Fastest(b, most); return []any{l}, e }}
}

func slowed(times []int, shortest int) call {
	return call{"Slowed", func() ([]any, api.Errno) { l, n, e := flow.Slowed(times, shortest); return []any{l, n}, e }}
}

func weight(b []api.Bead, density int) call {
	return call{"Weight", func() ([]any, api.Errno) { f, e := flow.Weight(b, density); return []any{f}, e }}
}

func checkSpools(s []api.Spool) call {
	return call{"CheckSpools", func() ([]any, api.Errno) { return nil, flow.CheckSpools(s) }}
}

// withDraws are the functions with spools and draws.
func withDraws(s []api.Spool, d []api.Draw, at int) []call {
	return []call{
		{"Left", func() ([]any, api.Errno) { l, e := flow.Left(s, d, at); return []any{l}, e }},
		{"Refused", func() ([]any, api.Errno) { l, e := flow.Refused(s, d); return []any{l}, e }},
	}
}

func fits(s []api.Spool, material string, needs []int) call {
	return call{"Fits", func() ([]any, api.Errno) { l, is, e := flow.Fits(s, material, needs); return []any{l, is}, e }}
}

func changes(s []api.Spool, material string, need int) call {
	return call{"Changes", func() ([]any, api.Errno) { l, is, e := flow.Changes(s, material, need); return []any{l, is}, e }}
}

func text(d []api.Draw) call {
	return call{"Text", func() ([]any, api.Errno) { s, e := flow.Text(d); return []any{s}, e }}
}

func read(s string) call {
	return call{"Read", func() ([]any, api.Errno) { d, n, e := flow.Read(s); return []any{d, n}, e }}
}
