package desk

import (
	"arithmetica/modulo"
	"arithmetica/prime"
	"arithmetica/residue"
	"arithmetica/whole"
)

// rootBy answers a number whose square leaves what a leaves, left by n, for n above 0, and whether there is one. By n there may be more of them than residue.Roots answers, so that one is looked for by each power of a prime in n.
func rootBy(a, n int) (x int, ok bool) {
	powers, _ := prime.Factor(n)
	var rests, mods []int
	for _, p := range powers {
		mod := 1
		for range p.Times {
			mod *= p.Prime
		}
		rest, ok := rootByPower(modulo.Left(a, mod), p.Prime, mod)
		if !ok {
			return 0, false
		}
		rests = append(rests, rest)
		mods = append(mods, mod)
	}
	x, _, _ = whole.Join(rests, mods)
	return x, true
}

// rootByPower answers the same by a power of a prime, for a from 0 to power - 1. Where the prime divides a, it divides a root, and so its square must divide a; where it does not, there are at most four roots.
func rootByPower(a, prime, power int) (x int, ok bool) {
	if a == 0 {
		return 0, true
	}
	if a%prime == 0 {
		if a/prime%prime != 0 {
			return 0, false
		}
		x, ok = rootByPower(a/prime/prime, prime, power/prime/prime)
		return x * prime, ok
	}
	list, _ := residue.Roots(a, power)
	if len(list) == 0 {
		return 0, false
	}
	return list[0], true
}
