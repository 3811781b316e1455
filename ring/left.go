package ring

import (
	"math/bits"

	"arithmetica/api"
	"arithmetica/modulo"
	"arithmetica/prime"
	"arithmetica/whole"
)

// remainders are what numbers leave by a prime, each told in one way only. Only the fields tell by which prime, and of which kind it is.
type remainders struct {
	left  func(x api.Pair) api.Pair    // what x leaves
	times func(x, y api.Pair) api.Pair // what the product of x and y leaves, which are both left themselves
}

// leftBy answers the remainders by the prime p. Those of Div would need products of three parts, which an int does not hold.
func (r Ring) leftBy(p api.Pair) remainders {
	norm := r.norm(p)
	if is, _ := prime.Is(norm); is {
		return leftByNorm(p, norm)
	}
	return r.leftByWhole(r.chief(p).A)
}

// leftByNorm answers the remainders by p, whose norm is a prime. By such a p, every number leaves what a whole number from 0 to norm - 1 leaves, and second is the one that i, or w, leaves: second B leaves what -A leaves.
func leftByNorm(p api.Pair, norm int) remainders {
	inverse, _ := whole.Inverse(p.B, norm)
	second := modulo.Product(modulo.Left(-p.A, norm), inverse, norm)
	return remainders{
		left: func(x api.Pair) api.Pair {
			return api.Pair{A: modulo.Left(x.A+modulo.Product(modulo.Left(x.B, norm), second, norm), norm)}
		},
		times: func(x, y api.Pair) api.Pair {
			return api.Pair{A: modulo.Product(x.A, y.A, norm)}
		},
	}
}

// leftByWhole answers the remainders by a whole number: it divides a number if it divides both parts.
func (r Ring) leftByWhole(p int) remainders {
	left := func(x api.Pair) api.Pair {
		return api.Pair{A: modulo.Left(x.A, p), B: modulo.Left(x.B, p)}
	}
	return remainders{
		left:  left,
		times: func(x, y api.Pair) api.Pair { return left(r.Times(x, y)) },
	}
}

// power answers what x leaves to the power of n, for n from 0 on.
func (m remainders) power(x api.Pair, n int) api.Pair {
	answer, square := m.left(api.Pair{A: 1}), m.left(x)
	for i := range bits.Len64(uint64(n)) {
		if n>>i&1 == 1 {
			answer = m.times(answer, square)
		}
		square = m.times(square, square)
	}
	return answer
}

// exponent answers the least power of unit that leaves power; its callers know that there is one.
func (m remainders) exponent(unit, power api.Pair) int {
	many := 0
	for m.power(unit, many) != power {
		many++
	}
	return many
}
