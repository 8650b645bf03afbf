package motion_test

import (
	"math/big"
	"math/rand"
	"reflect"

	"beadlayer/api"
	"beadlayer/motion"
)

const (
	least    = -1 << 63
	greatest = 1<<63 - 1
	far      = api.MaxCoordinate
)

// legs are told as Long, Limit, Long, Limit ..
func legs(n ...int) []api.Leg {
	var all []api.Leg
	for i := 0; i < len(n); i += 2 {
		all = append(all, leg(n[i], n[i+1]))
	}
	return all
}

func leg(long, limit int) api.Leg { return api.Leg{Long: long, Limit: limit} }

func list(n ...int) []int { return n }

func point(x, y int) api.Point { return api.Point{X: x, Y: y} }

// open is a path with the points that are told as X, Y, X, Y ..
func open(n ...int) api.Path {
	var p api.Path
	for i := 0; i < len(n); i += 2 {
		p.Points = append(p.Points, point(n[i], n[i+1]))
	}
	return p
}

func closed(n ...int) api.Path {
	p := open(n...)
	p.Closed = true
	return p
}

func abs(n int) int {
	if n < 0 {
		return -n
	}
	return n
}

// moves are legs, the corners between them, and the change that is possible.
type moves struct {
	l       []api.Leg
	corners []int
	change  int
}

func randomMoves(r *rand.Rand, count, long, limit, change int) moves {
	m := moves{change: 1 + r.Intn(change)}
	for i := range count {
		m.l = append(m.l, leg(1+r.Intn(long), 1+r.Intn(limit)))
		if i > 0 {
			m.corners = append(m.corners, r.Intn(limit+1))
		}
	}
	return m
}

// anyMoves are small ones, large ones, and such between them.
func anyMoves(r *rand.Rand) moves {
	count := 1 + r.Intn(6)
	switch r.Intn(4) {
	case 0:
		return randomMoves(r, count, api.MaxLeg, api.MaxSpeed, api.MaxChange)
	case 1:
		return randomMoves(r, count, 1000, api.MaxSpeed, 5000)
	case 2:
		return randomMoves(r, count, 100, 200, 50)
	}
	return randomMoves(r, count, 6, 9, 3)
}

// keeps is what P6.2 says, word by word.
func (m moves) keeps(v []int) bool {
	for i, speed := range v {
		if speed < 0 || (i == 0 || i == len(m.l)) && speed != 0 {
			return false
		}
		if i > 0 && i < len(m.l) && (speed > m.corners[i-1] || speed > m.l[i-1].Limit || speed > m.l[i].Limit) {
			return false
		}
	}
	for i, l := range m.l {
		a, b := big.NewInt(int64(v[i])), big.NewInt(int64(v[i+1]))
		difference := a.Sub(a.Mul(a, a), b.Mul(b, b))
		if difference.CmpAbs(big.NewInt(int64(2*m.change*l.Long))) > 0 {
			return false
		}
	}
	return true
}

// fastest are the greatest speeds: those of the corners, made slower as long as a leg is too short.
func (m moves) fastest() []int {
	v := make([]int, len(m.l)+1)
	for i, corner := range m.corners {
		v[i+1] = min(corner, m.l[i].Limit, m.l[i+1].Limit)
	}
	for slower := true; slower; {
		slower = false
		for i, l := range m.l {
			for _, pair := range [][2]int{{i, i + 1}, {i + 1, i}} {
				for v[pair[0]]*v[pair[0]]-v[pair[1]]*v[pair[1]] > 2*m.change*l.Long {
					v[pair[0]]--
					slower = true
				}
			}
		}
	}
	return v
}

// peaks are the greatest speeds within legs, looked for from above.
func (m moves) peaks() []int {
	v := m.fastest()
	var all []int
	for i, l := range m.l {
		p := l.Limit
		for 2*p*p > v[i]*v[i]+v[i+1]*v[i+1]+2*m.change*l.Long {
			p--
		}
		all = append(all, p)
	}
	return all
}

func ratio(num, den int) *big.Rat { return big.NewRat(int64(num), int64(den)) }

func sum(all ...*big.Rat) *big.Rat {
	s := new(big.Rat)
	for _, x := range all {
		s.Add(s, x)
	}
	return s
}

// microseconds are how long a leg takes, as P6.3 says it, word by word.
func microseconds(u, w, p int, l api.Leg, change int) *big.Rat {
	rest := sum(ratio(l.Long, 1), ratio(u*u+w*w-2*p*p, 2*change))
	seconds := sum(ratio(p-u, change), ratio(p-w, change), rest.Quo(rest, ratio(p, 1)))
	return seconds.Mul(seconds, ratio(1_000_000, 1))
}

func roundedUp(x *big.Rat) int {
	down, rest := new(big.Int).DivMod(x.Num(), x.Denom(), new(big.Int))
	if rest.Sign() > 0 {
		down.Add(down, big.NewInt(1))
	}
	return int(down.Int64())
}

func isZero(value any) bool {
	v := reflect.ValueOf(value)
	if v.Kind() == reflect.Slice {
		return v.Len() == 0
	}
	return v.IsZero()
}

// call is a function of the package, with all its arguments.
type call struct {
	name string
	run  func() ([]any, api.Errno)
}

// withoutChange are the functions with legs and corners, but no change.
func withoutChange(m moves, leg, at int) []call {
	return []call{
		{"Split", func() ([]any, api.Errno) { l, c, e := motion.Split(m.l, m.corners, leg, at); return []any{l, c}, e }},
		{"Back", func() ([]any, api.Errno) { l, c, e := motion.Back(m.l, m.corners); return []any{l, c}, e }},
	}
}

// withChange are the functions with legs, corners and change.
func withChange(m moves, v []int) []call {
	return []call{
		{"Speeds", func() ([]any, api.Errno) { n, e := motion.Speeds(m.l, m.corners, m.change); return []any{n}, e }},
		{"Peaks", func() ([]any, api.Errno) { n, e := motion.Peaks(m.l, m.corners, m.change); return []any{n}, e }},
		{"Times", func() ([]any, api.Errno) { n, e := motion.Times(m.l, m.corners, m.change); return []any{n}, e }},
		{"Total", func() ([]any, api.Errno) { n, e := motion.Total(m.l, m.corners, m.change); return []any{n}, e }},
		{"Slow", func() ([]any, api.Errno) { n, e := motion.Slow(m.l, m.corners, v, m.change); return []any{n}, e }},
		{"Kept", func() ([]any, api.Errno) { b, e := motion.Kept(m.l, m.corners, v, m.change); return []any{b}, e }},
	}
}

// withLeg are the functions with one leg.
func withLeg(from, to int, l api.Leg, change int) []call {
	return []call{
		{"Exact", func() ([]any, api.Errno) { f, e := motion.Exact(from, to, l, change); return []any{f}, e }},
		{"Reached", func() ([]any, api.Errno) { n, e := motion.Reached(from, l, change); return []any{n}, e }},
	}
}

// withPath are the functions with a path.
func withPath(p api.Path, limit int) []call {
	return []call{
		{"Legs", func() ([]any, api.Errno) { l, e := motion.Legs(p, limit); return []any{l}, e }},
		{"Corners", func() ([]any, api.Errno) { c, e := motion.Corners(p, limit); return []any{c}, e }},
	}
}

func brake(speed, change int) call {
	return call{"Brake", func() ([]any, api.Errno) { n, e := motion.Brake(speed, change); return []any{n}, e }}
}
