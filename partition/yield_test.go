package partition

import (
	"slices"
	"testing"
)

// TestPartitionsMayEndEarly: after each number of them, the ones that came are the first ones, and no more are handed over.
func TestPartitionsMayEndEarly(t *testing.T) {
	all := slices.Collect(partitions(8, 8))
	for many := 1; many <= len(all); many++ {
		var some [][]int
		for l := range partitions(8, 8) {
			some = append(some, l)
			if len(some) == many {
				break
			}
		}
		if !slices.EqualFunc(some, all[:many], slices.Equal) {
			t.Errorf("the first %d are %v, want %v", many, some, all[:many])
		}
	}
}

// TestPentagonalsMayEndEarly: as above; and they are Euler's.
func TestPentagonalsMayEndEarly(t *testing.T) {
	want := []int{1, 2, 5, 7, 12, 15, 22, 26, 35, 40}
	for most := range 45 {
		for many := 1; many <= len(want); many++ {
			var some []int
			for n, isOdd := range pentagonals(most) {
				if isOdd != (len(some)%4 < 2) {
					t.Errorf("%d up to %d is told to be of another k", n, most)
				}
				some = append(some, n)
				if len(some) == many {
					break
				}
			}
			fits := slices.DeleteFunc(slices.Clone(want[:many]), func(n int) bool { return n > most })
			if !slices.Equal(some, fits) {
				t.Errorf("the first %d up to %d are %v, want %v", many, most, some, fits)
			}
		}
	}
}
