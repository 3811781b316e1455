package equation

import (
	"slices"

	"arithmetica/api"
)

// coins answers what Coins does, of a list without a fault.
func coins(l []int) (last, many int) {
	by := slices.Min(l)
	least := leastSums(l, by)
	// Of all numbers that leave the same by the least coin, just those from the least sum on are sums.
	for _, sum := range least {
		many += sum / by
	}
	return slices.Max(least) - by, many
}

// leastSums answers, for each number that is left by the given one, the least sum of numbers of l that leaves it.
func leastSums(l []int, by int) []int {
	least := make([]int, by)
	for rest := 1; rest < by; rest++ {
		least[rest] = api.MaxNum // none is known yet
	}
	for _, coin := range l {
		addCoin(least, coin)
	}
	return least
}

// addCoin lowers the least sums to those that may have the coin, too, as often as one likes.
//
// Coin by coin, what is left goes round, and each start below the common divisor has a round of its own. The least sum of a round stays; once it is met, all behind it are right, and so two times round are enough.
func addCoin(least []int, coin int) {
	by := len(least)
	starts := divisor(by, coin)
	for start := range starts {
		rest := start
		for range 2 * by / starts {
			next := (rest + coin) % by
			least[next] = min(least[next], least[rest]+coin)
			rest = next
		}
	}
}
