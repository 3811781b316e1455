package partition

import "iter"

// partitions yields all partitions of n whose entries are at most most, in the order of List, each in memory of its own.
func partitions(n, most int) iter.Seq[[]int] {
	return func(yield func([]int) bool) {
		if n == 0 {
			yield(nil)
			return
		}
		for first := min(n, most); first >= 1; first-- {
			for others := range partitions(n-first, first) {
				if !yield(append([]int{first}, others...)) {
					return
				}
			}
		}
	}
}
