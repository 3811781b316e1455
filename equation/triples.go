package equation

import "slices"

// triples answers what Triples does, of a most without a fault.
func triples(most int) [][3]int {
	var list [][3]int
	eachTriple(most, func(triple [3]int) {
		list = append(list, triple)
	})
	slices.SortFunc(list, byPlaces(2, 0))
	return list
}

// eachTriple hands over all triples, in no order. Each is told by just one m and n, n below m, one of them even, without a common divisor (Euclid).
func eachTriple(most int, do func(triple [3]int)) {
	for m := 2; m*m < most; m++ {
		for n := 1 + m%2; n < m && m*m+n*n <= most; n += 2 {
			if divisor(m, n) == 1 {
				odd, even := m*m-n*n, 2*m*n
				do([3]int{min(odd, even), max(odd, even), m*m + n*n})
			}
		}
	}
}
