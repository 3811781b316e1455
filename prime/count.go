package prime

import (
	"sync"
	"sync/atomic"
)

// partLength is short enough that 16 workers all find parts to count up to MaxSmall.
const partLength = 1 << 14

// count lets each worker take the next part that nobody has taken, until there is none left. A sum does not tell in which order it was made.
func count(n, workers int) int {
	parts := int64(n/partLength + 1)
	var taken, sum atomic.Int64
	var working sync.WaitGroup
	for range workers {
		working.Go(func() {
			for part := taken.Add(1) - 1; part < parts; part = taken.Add(1) - 1 {
				low := int(part) * partLength
				sum.Add(int64(countPart(low, min(low+partLength, n+1))))
			}
		})
	}
	working.Wait()
	return int(sum.Load())
}

// countPart answers how many primes there are from low to high - 1. It strikes out the multiples of each prime from its square on: those below have a smaller prime in them.
func countPart(low, high int) int {
	struck := make([]bool, high-low)
	for p := range rising {
		if p*p >= high {
			break
		}
		firstMultiple := (low + p - 1) / p * p
		for multiple := max(p*p, firstMultiple); multiple < high; multiple += p {
			struck[multiple-low] = true
		}
	}
	many := 0
	for n := max(low, 2); n < high; n++ {
		if !struck[n-low] {
			many++
		}
	}
	return many
}
