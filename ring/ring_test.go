package ring_test

import (
	"slices"
	"testing"

	"arithmetica/api"
	"arithmetica/residue"
	"arithmetica/ring"
	"arithmetica/sample"
)

// rootOfTwo answers a ring that no layer has: the numbers A + B r, where r^2 is -2. What package ring says of it can only come from these fields. (Symbol is not asked: r is no unit.)
func rootOfTwo() ring.Ring {
	return ring.Ring{
		Unit:    api.Pair{A: -1},
		Times:   func(x, y api.Pair) api.Pair { return api.Pair{A: x.A*y.A - 2*x.B*y.B, B: x.A*y.B + x.B*y.A} },
		Mirror:  func(x api.Pair) api.Pair { return api.Pair{A: x.A, B: -x.B} },
		IsChief: func(x api.Pair) bool { return x.A > 0 || x.A == 0 && x.B > 0 },
		Split: func(p int) (api.Pair, bool) {
			roots, _ := residue.Roots(-2, p)
			if len(roots) == 0 {
				return api.Pair{}, false
			}
			return api.Pair{A: roots[0], B: 1}, true
		},
	}
}

// within answers all pairs whose parts are up to bound in size.
func within(bound int) []api.Pair {
	var list []api.Pair
	for a := -bound; a <= bound; a++ {
		for b := -bound; b <= bound; b++ {
			list = append(list, api.Pair{A: a, B: b})
		}
	}
	return list
}

// TestDivLeavesALesserNorm: and with it, Gcd ends.
func TestDivLeavesALesserNorm(t *testing.T) {
	r := rootOfTwo()
	list := append(within(4), sample.Pairs(100)...)
	for _, x := range list {
		for _, y := range list {
			q, left, f := r.Div(x, y)
			if y == (api.Pair{}) {
				if f != (api.Fault{Code: api.ErrZero, At: 1}) {
					t.Fatalf("Div(%v, %v): %v", x, y, f)
				}
				continue
			}
			back := r.Times(q, y)
			before, _ := r.Norm(y)
			after, _ := r.Norm(left)
			if f.Code != api.OK || after >= before || back.A+left.A != x.A || back.B+left.B != x.B {
				t.Fatalf("Div(%v, %v): %v, %v, %v", x, y, q, left, f)
			}
		}
	}
}

// triedPrimes answers the chiefs but 0 and 1, with parts up to bound, that are no product of two such.
func triedPrimes(r ring.Ring, bound int) []api.Pair {
	chiefs := slices.DeleteFunc(within(bound), func(x api.Pair) bool { return !r.IsChief(x) || x == api.Pair{A: 1} })
	isProduct := map[api.Pair]bool{}
	for _, x := range chiefs {
		for _, y := range chiefs {
			product := r.Times(x, y)
			isProduct[product], isProduct[r.Times(product, r.Unit)] = true, true
		}
	}
	return slices.DeleteFunc(chiefs, func(x api.Pair) bool { return isProduct[x] })
}

// TestFactorOfAnotherKind: the factors are primes that are chiefs, in their order, and make the number.
func TestFactorOfAnotherKind(t *testing.T) {
	r := rootOfTwo()
	// What divides a chief with parts up to 7 has a norm up to 147, and so parts up to 12.
	primes := triedPrimes(r, 12)
	for _, x := range within(7) {
		if x == (api.Pair{}) {
			continue
		}
		turns, l, f := r.Factor(x)
		product := api.Pair{A: 1 - 2*turns}
		last := 0
		for _, p := range l {
			norm, _ := r.Norm(p.Prime)
			if !slices.Contains(primes, p.Prime) || norm < last {
				t.Errorf("Factor(%v): %v", x, l)
			}
			last = norm
			for range p.Times {
				product = r.Times(product, p.Prime)
			}
		}
		if product != x || f.Code != api.OK {
			t.Errorf("Factor(%v): %d, %v, %v", x, turns, l, f)
		}
	}
}
