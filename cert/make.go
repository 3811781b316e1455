package cert

import (
	"arithmetica/api"
	"arithmetica/modulo"
	"arithmetica/prime"
)

// certify answers a certificate for the prime p.
//
// It has at most 2 log2(p) - 1 parts, so that it never comes near MaxList: that is so of 2 and of 3; above them p - 1 is a power of 2, which makes two parts, or has at least two primes in it, whose parts are at most 2 log2(p - 1) - 2 together.
func certify(p int) api.Cert {
	if p == 2 {
		return api.Cert{N: 2}
	}
	powers, _ := prime.Factor(p - 1)
	c := api.Cert{N: p, Root: root(p, powers)}
	for _, power := range powers {
		c.Parts = append(c.Parts, certify(power.Prime))
	}
	return c
}

// root answers the least number whose powers leave all from 1 to p - 1, left by the odd prime p; powers are those of p - 1. There is one of each prime (Gauss), so that this ends.
func root(p int, powers []api.Power) int {
candidates:
	for candidate := 2; ; candidate++ {
		for _, power := range powers {
			if modulo.Power(candidate, (p-1)/power.Prime, p) == 1 {
				continue candidates
			}
		}
		return candidate
	}
}
