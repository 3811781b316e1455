package equation

import "slices"

// markov answers what Markov does, of a most without a fault.
//
// With x, y, z stand three neighbours, in each of which one number is 3 times the product of the other two, less itself. In one of them the greatest number is less, but for 1, 1, 1: so from there all triples are reached, by triples that have no greater numbers (Markov).
func markov(most int) [][3]int {
	var list [][3]int
	seen := map[[3]int]struct{}{}
	var visit func(triple [3]int)
	visit = func(triple [3]int) {
		if _, ok := seen[triple]; ok {
			return
		}
		seen[triple] = struct{}{}
		list = append(list, triple)
		eachNeighbour(triple, most, visit)
	}
	if most >= 1 {
		visit([3]int{1, 1, 1})
	}
	slices.SortFunc(list, byPlaces(2, 1, 0))
	return list
}

// eachNeighbour hands over the neighbours of a triple whose numbers are at most most, each rising.
func eachNeighbour(triple [3]int, most int, do func(neighbour [3]int)) {
	for i, n := range triple {
		p, q := triple[(i+1)%3], triple[(i+2)%3]
		// It divides where 3 p q may be beyond an int.
		if p > (most+n)/(3*q) {
			continue
		}
		neighbour := triple
		neighbour[i] = 3*p*q - n
		slices.Sort(neighbour[:])
		do(neighbour)
	}
}
