package bern

import "arithmetica/long"

// sets answers in how many ways n things can be put into k sets none of which is empty. One thing more either is a set alone, or stands in one of the sets of the others.
func sets(n, k int) long.Number {
	if k > n {
		return long.Number{}
	}
	spare := n - k
	ways := make([]long.Number, spare+1) // of as many things as there are sets so far, and 0, 1, .. more
	ways[0] = long.Of(1)
	for ahead := range k {
		for more := range spare {
			ways[more+1] = ways[more+1].Plus(ways[more].Times(ahead + 1))
		}
	}
	return ways[spare]
}
