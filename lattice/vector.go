package lattice

// product answers the sum of the products of what x and y have at the same place.
func product(x, y []int) int {
	sum := 0
	for i, n := range x {
		sum += n * y[i]
	}
	return sum
}

// plus answers x + times y.
func plus(x []int, times int, y []int) []int {
	sum := make([]int, len(x))
	for i, n := range x {
		sum[i] = n + times*y[i]
	}
	return sum
}
