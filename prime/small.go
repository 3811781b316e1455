package prime

import (
	"sync"

	"arithmetica/api"
)

// The first primes are found once, at the first call that needs them, and only read after that.
var (
	findOnce sync.Once
	found    [api.MaxList]int
)

// small yields the first MaxList primes, rising. The last of them is 7919, far above the root of MaxSmall.
func small(yield func(int) bool) {
	findOnce.Do(find)
	for i := range len(found) {
		if !yield(found[i]) {
			return
		}
	}
}

func find() {
	many := 0
	for p := range rising {
		found[many] = p
		many++
		if many == len(found) {
			break
		}
	}
}

// rising yields all primes, one after the other, for as long as it is asked for more.
func rising(yield func(int) bool) {
	var before []int
candidates:
	for n := 2; ; n++ {
		for _, p := range before {
			if p*p > n {
				break
			}
			if n%p == 0 {
				continue candidates
			}
		}
		if !yield(n) {
			return
		}
		before = append(before, n)
	}
}
