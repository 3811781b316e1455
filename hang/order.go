package hang

import (
	"arithmetica/api"
	"arithmetica/modulo"
	"arithmetica/prime"
	"arithmetica/seek"
	"arithmetica/whole"
)

// isUnit tells whether a has no divisor above 1 with m, so that one of its powers leaves what 1 leaves.
func isUnit(a, m int) bool {
	g, _ := whole.Gcd(a, m)
	return g == 1
}

// ordersBy answers a function that tells the order by m of a number that is a unit. What hangs on m alone is worked out once, of however many numbers the function is asked.
//
// An order divides Phi of m (Euler), so that it is what is left when all primes are taken out that may be.
func ordersBy(m int) func(a int) int {
	units, _ := Phi(m)
	powers, _ := prime.Factor(units)
	return func(a int) int {
		order := units
		for _, p := range powers {
			for order%p.Prime == 0 && modulo.Power(a, order/p.Prime, m) == 1 {
				order /= p.Prime
			}
		}
		return order
	}
}

// hasGenerator tells whether the product of powers, which is above 1, has a generator: 2, 4, the powers of odd primes and twice these have one, and no other number has (Gauss).
func hasGenerator(powers []api.Power) bool {
	if powers[0].Prime > 2 {
		return len(powers) == 1
	}
	if powers[0].Times == 1 {
		return len(powers) <= 2
	}
	return powers[0].Times == 2 && len(powers) == 1
}

// generator answers the least unit whose order by m is Phi of m, where there is one.
func generator(m int) int {
	units, _ := Phi(m)
	order := ordersBy(m)
	return seek.Least(func(g int) bool { return isUnit(g, m) && order(g) == units })
}
