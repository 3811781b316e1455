package frac

const lastPlace = 87 // F87 is at most MaxNum, F88 is not

// zeck answers the places of the numbers that come to n in sum, for n from 0 to MaxNum. It takes the greatest Fk that is not above what is left, each time: what is left then is below F(k-1), so that no two are next to each other.
func zeck(n int) []int {
	numbers := fibonacci()
	var list []int
	for i := range lastPlace - 1 {
		k := lastPlace - i
		if numbers[k] <= n {
			list = append(list, k)
			n -= numbers[k]
		}
	}
	return list
}

// fibonacci answers Fibonacci's numbers, each at its place; that at 0 is 0.
func fibonacci() []int {
	numbers := []int{0, 1}
	for k := range lastPlace - 1 {
		numbers = append(numbers, numbers[k]+numbers[k+1])
	}
	return numbers
}
