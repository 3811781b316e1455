package ring_test

import (
	"math"
	"testing"

	"arithmetica/api"
)

// edges are pairs at which a check or a step may go wrong, those beyond the bound too.
func edges() []api.Pair {
	parts := []int{math.MinInt, -most - 1, -most, -3, -1, 0, 1, 2, 3, 5, most - 1, most, most + 1, math.MaxInt}
	var list []api.Pair
	for _, a := range parts {
		for _, b := range parts {
			list = append(list, pair(a, b))
		}
	}
	return list
}

// checkFaults tries a call on all edges: ErrRange at the first argument that is beyond the bound, then what the chapter says of the call, and with a fault nothing beside it.
func checkFaults(t *testing.T, call func(x, y api.Pair) (empty bool, f api.Fault), then func(x, y api.Pair) api.Fault) {
	t.Helper()
	seen := map[api.Fault]bool{}
	for _, x := range edges() {
		for _, y := range edges() {
			var want api.Fault
			switch {
			case !isPair(x):
				want = faultOf(api.ErrRange, 0)
			case !isPair(y):
				want = faultOf(api.ErrRange, 1)
			default:
				want = then(x, y)
			}
			seen[want] = true
			if empty, f := call(x, y); f != want || f != none && !empty {
				t.Fatalf("of %v and %v: empty is %v, %v, want %v", x, y, empty, f, want)
			}
		}
	}
	if len(seen) < 3 || !seen[none] {
		t.Errorf("only the faults %v were seen", seen)
	}
}

func TestFaultsOfMul(t *testing.T) {
	each(t, func(t *testing.T, k kind) {
		checkFaults(t, func(x, y api.Pair) (bool, api.Fault) {
			product, f := k.Mul(x, y)
			return product == zero, f
		}, func(x, y api.Pair) api.Fault {
			if _, fits := k.fits(x, y); !fits {
				return faultOf(api.ErrMuch, 0)
			}
			return none
		})
	})
}

func TestFaultsOfDiv(t *testing.T) {
	each(t, func(t *testing.T, k kind) {
		checkFaults(t, func(x, y api.Pair) (bool, api.Fault) {
			q, r, f := k.Div(x, y)
			return q == zero && r == zero, f
		}, func(x, y api.Pair) api.Fault {
			if y == zero {
				return faultOf(api.ErrZero, 1)
			}
			return none
		})
	})
}

func TestFaultsOfGcd(t *testing.T) {
	each(t, func(t *testing.T, k kind) {
		checkFaults(t, func(x, y api.Pair) (bool, api.Fault) {
			g, f := k.Gcd(x, y)
			return g == zero, f
		}, func(x, y api.Pair) api.Fault { return none })
	})
}

// TestFaultsOfTheSymbol: ErrRange first, then ErrKind at 1, and then ErrZero at 0.
func TestFaultsOfTheSymbol(t *testing.T) {
	each(t, func(t *testing.T, k kind) {
		checkFaults(t, func(x, p api.Pair) (bool, api.Fault) {
			n, f := k.Symbol(x, p)
			return n == 0, f
		}, func(x, p api.Pair) api.Fault {
			if !k.isPrime(p) || k.norm(p) == k.barred {
				return faultOf(api.ErrKind, 1)
			}
			if k.divides(p, x) {
				return faultOf(api.ErrZero, 0)
			}
			return none
		})
	})
}

// TestFaultsOfNormAndFactor: ErrRange at 0, and of Factor ErrZero at 0.
func TestFaultsOfNormAndFactor(t *testing.T) {
	each(t, func(t *testing.T, k kind) {
		for _, x := range edges() {
			var want api.Fault
			if !isPair(x) {
				want = faultOf(api.ErrRange, 0)
			}
			if n, f := k.Norm(x); f != want || f != none && n != 0 {
				t.Errorf("Norm(%v): %d, %v, want %v", x, n, f, want)
			}
			if x == zero {
				want = faultOf(api.ErrZero, 0)
			}
			if turns, l, f := k.Factor(x); f != want || f != none && (turns != 0 || len(l) != 0) {
				t.Errorf("Factor(%v): %d, %v, %v, want %v", x, turns, l, f, want)
			}
		}
	})
}
