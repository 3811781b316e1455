package ring_test

import (
	"slices"
	"testing"

	"arithmetica/api"
	"arithmetica/eisen"
	"arithmetica/gauss"
)

const most = api.MaxPart

var (
	none = api.Fault{}
	zero = api.Pair{}
	one  = api.Pair{A: 1}
)

func faultOf(code, at int) api.Fault { return api.Fault{Code: code, At: at} }

func pair(a, b int) api.Pair { return api.Pair{A: a, B: b} }

func isPair(x api.Pair) bool { return max(x.A, x.B) <= most && min(x.A, x.B) >= -most }

// within answers all pairs whose parts are up to bound in size.
func within(bound int) []api.Pair {
	var list []api.Pair
	for a := -bound; a <= bound; a++ {
		for b := -bound; b <= bound; b++ {
			list = append(list, pair(a, b))
		}
	}
	return list
}

// kind is the numbers A + B s of one layer, where s is i or w. Its calls, which are tried, begin with capitals; the rest is what the layer's chapter says of its numbers, and owes nothing to those calls.
type kind struct {
	name   string
	Norm   func(x api.Pair) (int, api.Fault)
	Mul    func(x, y api.Pair) (api.Pair, api.Fault)
	Div    func(x, y api.Pair) (q, r api.Pair, f api.Fault)
	Gcd    func(x, y api.Pair) (api.Pair, api.Fault)
	Factor func(x api.Pair) (turns int, l []api.PairPower, f api.Fault)
	Symbol func(x, p api.Pair) (int, api.Fault)

	middle    int        // s^2 is -1 - middle s
	units     []api.Pair // as the powers of one of them
	powers    []api.Pair // those of s
	isChief   func(x api.Pair) bool
	barred    int                       // the norm of the primes by which there is no symbol
	isPrimary func(p api.Pair) bool     // does the law of the symbols speak of p?
	apart     func(norm, other int) int // how far the law puts two symbols from each other
}

func ofGauss() kind {
	units := []api.Pair{one, pair(0, 1), pair(-1, 0), pair(0, -1)}
	return kind{
		name: "gauss", Norm: gauss.Norm, Mul: gauss.Mul, Div: gauss.Div, Gcd: gauss.Gcd, Factor: gauss.Factor, Symbol: gauss.Quartic,
		units: units, powers: units, barred: 2,
		isChief: func(x api.Pair) bool { return x.A > 0 && x.B >= 0 },
		// p - 1 is a multiple of 2 + 2 i
		isPrimary: func(p api.Pair) bool { return (p.A-1+p.B)%4 == 0 && (p.A-1-p.B)%4 == 0 },
		apart: func(norm, other int) int {
			if norm%8 == 5 && other%8 == 5 {
				return 2
			}
			return 0
		},
	}
}

func ofEisenstein() kind {
	return kind{
		name: "eisen", Norm: eisen.Norm, Mul: eisen.Mul, Div: eisen.Div, Gcd: eisen.Gcd, Factor: eisen.Factor, Symbol: eisen.Cubic,
		middle:    1,
		units:     []api.Pair{one, pair(1, 1), pair(0, 1), pair(-1, 0), pair(-1, -1), pair(0, -1)},
		powers:    []api.Pair{one, pair(0, 1), pair(-1, -1)},
		barred:    3,
		isChief:   func(x api.Pair) bool { return x.A > x.B && x.B >= 0 },
		isPrimary: func(p api.Pair) bool { return (p.A-2)%3 == 0 && p.B%3 == 0 },
		apart:     func(norm, other int) int { return 0 },
	}
}

// each tries something with the numbers of each layer.
func each(t *testing.T, try func(t *testing.T, k kind)) {
	for _, k := range []kind{ofGauss(), ofEisenstein()} {
		t.Run(k.name, func(t *testing.T) {
			t.Parallel()
			try(t, k)
		})
	}
}

func (k kind) norm(x api.Pair) int { return x.A*x.A - k.middle*x.A*x.B + x.B*x.B }

// product answers that of x and y, which are so small that an int holds all of it.
func (k kind) product(x, y api.Pair) api.Pair {
	square := x.B * y.B
	return pair(x.A*y.A-square, x.A*y.B+x.B*y.A-k.middle*square)
}

// fits answers the product of x and y, and whether it is one that may be handed in.
func (k kind) fits(x, y api.Pair) (api.Pair, bool) {
	answer, fits := k.times(longOf(x), longOf(y)).pair()
	return answer, fits && isPair(answer)
}

// turned answers x times the unit with that number.
func (k kind) turned(x api.Pair, turns int) api.Pair {
	return k.product(x, k.units[turns])
}

// turns answers all that differ from x by a unit and may be handed in.
func (k kind) turns(x api.Pair) []api.Pair {
	var list []api.Pair
	for turns := range k.units {
		list = append(list, k.turned(x, turns))
	}
	return slices.DeleteFunc(list, func(x api.Pair) bool { return !isPair(x) })
}

// chief answers the one that is the chief, of those that differ from x by a unit.
func (k kind) chief(x api.Pair) api.Pair {
	for turns := range k.units {
		if chief := k.turned(x, turns); k.isChief(chief) {
			return chief
		}
	}
	return zero
}
