package prime

import (
	"sync"

	"arithmetica/api"
)

// The first primes are found once, at the first call of First, and only read after that, by First alone: all other functions work out by rising what they need of them, and so hang on nothing that is kept.
var (
	findOnce sync.Once
	found    [api.MaxList]int
)

// copyFound answers so many of the primes that are found once, for many from 0 to MaxList.
func copyFound(many int) []int {
	findOnce.Do(find)
	list := make([]int, many)
	for i := range many {
		list[i] = found[i]
	}
	return list
}

func find() {
	many := 0
	for p := range rising {
		found[many] = p
		many++
		if many == len(found) {
			break
		}
	}
}

// rising yields all primes, one after the other, for as long as it is asked for more.
func rising(yield func(int) bool) {
	var before []int
candidates:
	for n := 2; ; n++ {
		for _, p := range before {
			if p*p > n {
				break
			}
			if n%p == 0 {
				continue candidates
			}
		}
		if !yield(n) {
			return
		}
		before = append(before, n)
	}
}
