package equation

import "cmp"

// byPlaces tells how two triples are held against each other: by what they have at the first of the places at which they differ.
func byPlaces(places ...int) func(p, q [3]int) int {
	return func(p, q [3]int) int {
		for _, i := range places {
			if p[i] != q[i] {
				return cmp.Compare(p[i], q[i])
			}
		}
		return 0
	}
}
