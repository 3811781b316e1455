package partition

import (
	"iter"

	"arithmetica/long"
)

// count answers how many partitions n has, by those of all numbers below it.
func count(n int) long.Number {
	counts := []long.Number{long.Of(1)}
	for len(counts) <= n {
		counts = append(counts, next(counts))
	}
	return counts[n]
}

// next answers how many partitions the first number has that has no place in counts yet (Euler).
func next(counts []long.Number) long.Number {
	n := len(counts)
	var added, taken long.Number
	for step, adds := range pentagonals(n) {
		if adds {
			added = added.Plus(counts[n-step])
		} else {
			taken = taken.Plus(counts[n-step])
		}
	}
	return added.Minus(taken)
}

// pentagonals yields all k (3 k - 1) / 2 and k (3 k + 1) / 2 up to most, for k from 1 on, rising, each with whether k is odd.
func pentagonals(most int) iter.Seq2[int, bool] {
	return func(yield func(int, bool) bool) {
		for k := 1; k*(3*k-1)/2 <= most; k++ {
			n, isOdd := k*(3*k-1)/2, k%2 == 1
			if !yield(n, isOdd) || n+k <= most && !yield(n+k, isOdd) {
				return
			}
		}
	}
}
