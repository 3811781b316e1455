package residue

import (
	"math/bits"
	"slices"

	"arithmetica/modulo"
	"arithmetica/seek"
)

// rootsOfUnit answers the roots of u, which prime does not divide, by a power of prime.
func rootsOfUnit(u, prime, power int) []int {
	if prime == 2 {
		return rootsByTwos(u, power)
	}
	// What is a square by an odd prime is one by each of its powers, and two numbers have it as their square.
	if symbol(u, prime) != 1 {
		return nil
	}
	root := rootByOdd(u, prime, power)
	return []int{root, power - root}
}

// rootsByTwos answers the roots of u, which is odd, by a power of 2. They grow bit by bit: a root by twice a number is a root by that number, or so much above one.
func rootsByTwos(u, power int) []int {
	list := []int{1}
	for m := 2; m < power; m *= 2 {
		for _, root := range list {
			list = append(list, root+m)
		}
		list = slices.DeleteFunc(list, func(root int) bool {
			return modulo.Product(root, root, 2*m) != u%(2*m)
		})
	}
	return list
}

// rootByOdd answers a root of u, which is a square by an odd prime and not divided by it, by a power of that prime (Tonelli, Shanks).
//
// The square of root is u times off, all along, and the order of off is a power of 2, which is halved until off is 1: where off has the greatest order that it still may have, turn's square, which has that order too, takes it out.
func rootByOdd(u, prime, power int) int {
	units := power / prime * (prime - 1)
	twos := bits.TrailingZeros64(uint64(units))
	odd := units >> twos
	root := modulo.Power(u, odd/2+1, power)
	off := modulo.Power(u, odd, power)
	turn := modulo.Power(noSquare(prime), odd, power)
	for i := range twos - 1 {
		square := modulo.Product(turn, turn, power)
		if modulo.Power(off, 1<<(twos-2-i), power) != 1 {
			root = modulo.Product(root, turn, power)
			off = modulo.Product(off, square, power)
		}
		turn = square
	}
	return root
}

// noSquare answers the least number that leaves what no square leaves, left by an odd prime; half of those that the prime does not divide do.
func noSquare(prime int) int {
	return seek.Least(func(n int) bool { return symbol(n, prime) == -1 })
}
