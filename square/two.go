package square

import (
	"maps"
	"slices"

	"arithmetica/api"
	"arithmetica/prime"
	"arithmetica/residue"
)

// quarter answers a quarter of how many rows of two whole numbers, of any sign and in any order, have squares whose sum is the product of powers. It is how many divisors leave 1 less how many leave 3, left by 4 (Jacobi), and so the product of what that is for each power.
func quarter(powers []api.Power) int {
	many := 1
	for _, p := range powers {
		switch {
		case p.Prime%4 == 1:
			many *= p.Times + 1
		case p.Prime%4 == 3 && p.Times%2 == 1:
			return 0
		}
	}
	return many
}

// manyPairs answers how many pairs there are. Each stands for eight rows, but one with b = 0 or a = b for four, and of these there is at most one: just if the quarter is odd.
func manyPairs(powers []api.Power) int {
	return (quarter(powers) + 1) / 2
}

// pairs answers all a and b with a^2 + b^2 = n, the product of powers, a not below b, b not below 0: the map leads from each b to its a.
//
// Of Gauss's numbers, those whose norm is n are the products of n's parts, each part or its mirror, times a unit. So each part leads, both ways, from all pairs of one number to all of the next. Most are met more than once on the way, and stand in the map once.
func pairs(powers []api.Power) map[int]int {
	if quarter(powers) == 0 {
		return nil
	}
	greater := map[int]int{0: 1}
	for _, part := range parts(powers) {
		next := map[int]int{}
		for b, a := range greater {
			add(next, product(api.Pair{A: a, B: b}, part))
			add(next, product(api.Pair{A: a, B: -b}, part))
		}
		greater = next
	}
	return greater
}

// add puts x in, or that of the numbers with the same squares whose A is not below its B, and its B not below 0.
func add(greater map[int]int, x api.Pair) {
	a, b := size(x.A), size(x.B)
	greater[min(a, b)] = max(a, b)
}

func size(n int) int { return max(n, -n) }

// listed answers a and b of all pairs, rising by b.
func listed(greater map[int]int) [][2]int {
	var list [][2]int
	for _, b := range slices.Sorted(maps.Keys(greater)) {
		list = append(list, [2]int{greater[b], b})
	}
	return list
}

// onePair answers some a and b from 0 on with a^2 + b^2 = n, for n from 0 to MaxNum, and whether there are any.
func onePair(n int) (a, b int, ok bool) {
	if n == 0 {
		return 0, 0, true
	}
	powers, _ := prime.Factor(n)
	if quarter(powers) == 0 {
		return 0, 0, false
	}
	x := api.Pair{A: 1}
	for _, part := range parts(powers) {
		x = product(x, part)
	}
	return size(x.A), size(x.B), true
}

// parts answers primes among Gauss's numbers, of which the product of the norms is that of powers, where quarter is above 0.
func parts(powers []api.Power) []api.Pair {
	var list []api.Pair
	for _, p := range powers {
		part, times := partOf(p.Prime), p.Times
		// Such a prime stays one among Gauss's numbers, and its norm is its square.
		if p.Prime%4 == 3 {
			times /= 2
		}
		for range times {
			list = append(list, part)
		}
	}
	return list
}

func partOf(p int) api.Pair {
	switch p % 4 {
	case 2:
		return api.Pair{A: 1, B: 1}
	case 3:
		return api.Pair{A: p}
	}
	return split(p)
}

// split answers a number whose norm is the prime p, which leaves 1, left by 4. Euclid's steps, from p and a root of -1 by p on, lead to its A, the first that is not above p's own root, and next to its B (Hermite and Serret).
func split(p int) api.Pair {
	roots, _ := residue.Roots(-1, p)
	before, last := p, roots[0]
	// It divides, as an int need not hold the square of last.
	for last > p/last {
		before, last = last, before%last
	}
	return api.Pair{A: last, B: before % last}
}

// product answers that of Gauss's numbers x and y. An int holds it: no norm on the way is above MaxNum. Package gauss has a nearer bound.
func product(x, y api.Pair) api.Pair {
	return api.Pair{A: x.A*y.A - x.B*y.B, B: x.A*y.B + x.B*y.A}
}
