package padic

import "arithmetica/modulo"

// valueAt answers what the polynomial l leaves at x, left by m (Horner).
func valueAt(l []int, x, m int) int {
	x = modulo.Left(x, m)
	value := 0
	for i := range len(l) {
		term := l[len(l)-1-i]
		value = (modulo.Product(value, x, m) + modulo.Left(term, m)) % m
	}
	return value
}

// slopeAt answers what the derivative of the polynomial l leaves at x, left by m.
func slopeAt(l []int, x, m int) int {
	return valueAt(derivative(l, m), x, m)
}

// derivative answers what the numbers of l's derivative leave by m: they themselves may be longer than an int.
func derivative(l []int, m int) []int {
	var answer []int
	for i := 1; i < len(l); i++ {
		answer = append(answer, modulo.Product(modulo.Left(i, m), modulo.Left(l[i], m), m))
	}
	return answer
}
