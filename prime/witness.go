package prime

import (
	"math/bits"

	"arithmetica/modulo"
)

// mostWitness: among the primes up to it there is a witness against each number below 3825123056546413051 that is no prime (Jiang and Deng), so that the answer is certain.
const mostWitness = 23

func isPrime(n int) bool {
	if n < 2 {
		return false
	}
	for p := range rising {
		if p > mostWitness {
			break
		}
		if n%p == 0 {
			return n == p
		}
	}
	for p := range rising {
		if p > mostWitness {
			break
		}
		if isWitness(p, n) {
			return false
		}
	}
	return true
}

// isWitness tells whether a shows that the odd n is no prime (Miller and Rabin): of a prime, each square root of 1 is 1 or -1.
func isWitness(a, n int) bool {
	halvings := bits.TrailingZeros64(uint64(n - 1))
	x := modulo.Power(a, (n-1)>>halvings, n)
	if x == 1 {
		return false
	}
	for range halvings {
		if x == n-1 {
			return false
		}
		x = modulo.Product(x, x, n)
	}
	return true
}
