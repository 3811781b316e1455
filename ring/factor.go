package ring

import (
	"cmp"
	"slices"

	"arithmetica/api"
	"arithmetica/prime"
)

// takeApart takes the primes out of x, which is not 0, and answers the unit that is left, and the primes in their order.
//
// A prime divides its norm, and so one of the primes in the norm of each number that it divides.
func (r Ring) takeApart(x api.Pair) (unit api.Pair, list []api.PairPower) {
	powers, _ := prime.Factor(r.norm(x))
	for _, power := range powers {
		for _, p := range r.over(power.Prime, x) {
			left, times := r.takeOut(p, x)
			if times > 0 {
				list = append(list, api.PairPower{Prime: p, Times: times})
			}
			x = left
		}
	}
	slices.SortFunc(list, func(one, other api.PairPower) int { return r.compare(one.Prime, other.Prime) })
	return x, list
}

// over answers the chiefs that are primes and divide p, the least prime in the norm of x, but not those that surely do not divide x. One may stand there twice.
//
// If p is all of that norm, x is a prime itself, and no other divides it. Else the norm is no less than p^2, so that an int holds the products of which gcd is made.
func (r Ring) over(p int, x api.Pair) []api.Pair {
	if r.norm(x) == p {
		return []api.Pair{r.chief(x)}
	}
	apart, has := r.Split(p)
	if !has {
		return []api.Pair{{A: p}}
	}
	one := r.gcd(api.Pair{A: p}, apart)
	return []api.Pair{one, r.chief(r.Mirror(one))}
}

// takeOut divides x by p as often as p divides it.
func (r Ring) takeOut(p, x api.Pair) (left api.Pair, times int) {
	for {
		q, rest := r.div(x, p)
		if !isZero(rest) {
			return x, times
		}
		x = q
		times++
	}
}

// compare tells which of two stands first in Factor's list.
func (r Ring) compare(x, y api.Pair) int {
	return cmp.Or(cmp.Compare(r.norm(x), r.norm(y)), cmp.Compare(x.A, y.A), cmp.Compare(x.B, y.B))
}

// isPrime tells whether x is a prime: its norm is one, or it is, but for a unit, a prime among whole numbers that does not split.
func (r Ring) isPrime(x api.Pair) bool {
	if is, _ := prime.Is(r.norm(x)); is {
		return true
	}
	chief := r.chief(x)
	if is, _ := prime.Is(chief.A); !is || chief.B != 0 {
		return false
	}
	_, splits := r.Split(chief.A)
	return !splits
}
