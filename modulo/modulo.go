// Package modulo reckons with what is left by a number m, which its callers keep from 1 to MaxNum.
package modulo

import "math/bits"

// Left answers what is a left by m, from 0 to m - 1. Go's own % takes its sign from a.
func Left(a, m int) int {
	rest := a % m
	if rest < 0 {
		return rest + m
	}
	return rest
}

// Product answers what is a b left by m, for a and b from 0 to m - 1. The product may need 128 bits.
func Product(a, b, m int) int {
	high, low := bits.Mul64(uint64(a), uint64(b))
	return int(bits.Rem64(high, low, uint64(m)))
}

// Power answers what is a to the power of n left by m, for n from 0 on. It squares bit by bit, so that the number of steps is that of n's bits.
func Power(a, n, m int) int {
	answer, square := Left(1, m), Left(a, m)
	for i := range bits.Len64(uint64(n)) {
		if n>>i&1 == 1 {
			answer = Product(answer, square, m)
		}
		square = Product(square, square, m)
	}
	return answer
}
