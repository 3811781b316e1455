package partition

import "slices"

// odd answers what Odd does, of a list without a fault.
func odd(l []int) []int {
	var list []int
	for number, times := range timesOfOdds(l) {
		list = append(list, slices.Repeat([]int{number}, times)...)
	}
	return falling(list)
}

// apart answers what Apart does, of a list without a fault. How often an odd number is there is a sum of different powers of two in just one way, and so there is just one answer.
func apart(l []int) []int {
	var list []int
	for number, times := range timesOfOdds(l) {
		for times > 0 {
			power := leastPower(times)
			list = append(list, number*power)
			times -= power
		}
	}
	return falling(list)
}

// timesOfOdds answers how often each odd number is there, where each entry, an odd number times a power of two, stands for that odd number so many times.
func timesOfOdds(l []int) map[int]int {
	times := map[int]int{}
	for _, entry := range l {
		power := leastPower(entry)
		times[entry/power] += power
	}
	return times
}

// leastPower answers the least of the different powers of two that n, above 0, is the sum of; no greater one divides n.
func leastPower(n int) int { return n & -n }

// falling brings list, which it changes, in the order of a partition.
func falling(list []int) []int {
	slices.Sort(list)
	slices.Reverse(list)
	return list
}
