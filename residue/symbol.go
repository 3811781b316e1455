package residue

import (
	"math/bits"

	"arithmetica/modulo"
)

// symbol answers Jacobi's symbol of a and n, for n odd and above 0.
//
// It needs no primes: twos are taken out of a, by what the symbol of 2 is; then the two change places, by what Gauss says of them, until n divides a. By then n is the greatest divisor of both.
func symbol(a, n int) int {
	a = modulo.Left(a, n)
	answer := 1
	for a != 0 {
		twos := bits.TrailingZeros64(uint64(a))
		a >>= twos
		if twos%2 == 1 && (n%8 == 3 || n%8 == 5) {
			answer = -answer
		}
		if a%4 == 3 && n%4 == 3 {
			answer = -answer
		}
		a, n = n%a, a
	}
	if n > 1 {
		return 0
	}
	return answer
}
