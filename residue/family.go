package residue

import (
	"arithmetica/api"
	"arithmetica/modulo"
	"arithmetica/whole"
)

// family is all roots by a power of a prime: first are those below step, the others are reached from them by step, up to the power. So many may be told that no list could hold them.
type family struct {
	first       []int
	step, steps int // their product is the power
}

func (r family) power() int { return r.step * r.steps }

func (r family) many() int { return len(r.first) * r.steps }

// each hands all roots over to do.
func (r family) each(do func(root int)) {
	for i := range r.steps {
		for _, first := range r.first {
			do(first + i*r.step)
		}
	}
}

// familiesBy answers the roots of a by each of powers.
func familiesBy(powers []api.Power, a int) []family {
	var list []family
	for _, p := range powers {
		list = append(list, familyBy(p, a))
	}
	return list
}

// familyBy answers the roots of a by one power of a prime.
//
// If the power divides a, the roots are the numbers that have the prime in them at least half as often as the power has. Else, a must have it in it an even number of times, and a root has it half as often. The rest of a root is a root of the rest of a, but only by the power without the primes of a: that is why there is a step shorter than the power.
func familyBy(p api.Power, a int) family {
	power := raised(p.Prime, p.Times)
	unit := modulo.Left(a, power)
	if unit == 0 {
		half := raised(p.Prime, p.Times/2)
		return family{first: []int{0}, step: power / half, steps: half}
	}
	times := 0
	for unit%p.Prime == 0 {
		unit /= p.Prime
		times++
	}
	if times%2 == 1 {
		return family{}
	}
	half := raised(p.Prime, times/2)
	first := rootsOfUnit(unit, p.Prime, power/half/half)
	for i := range first {
		first[i] *= half
	}
	return family{first: first, step: power / half, steps: half}
}

func raised(n, times int) int {
	answer := 1
	for range times {
		answer *= n
	}
	return answer
}

// choices answers in how many ways one root of each family may be chosen. An int holds it: a family has no more roots than there are numbers below its power.
func choices(families []family) int {
	many := 1
	for _, r := range families {
		many *= r.many()
	}
	return many
}

// joined answers for each choice of one root of each family the number that leaves them all, in no order.
func joined(families []family) []int {
	var list []int
	var choose func(place, rest, mod int)
	choose = func(place, rest, mod int) {
		if place == len(families) {
			list = append(list, rest)
			return
		}
		power := families[place].power()
		families[place].each(func(root int) {
			next, _, _ := whole.Join([]int{rest, root}, []int{mod, power})
			choose(place+1, next, mod*power)
		})
	}
	choose(0, 0, 1)
	return list
}
