package sample_test

import (
	"fmt"
	"slices"
	"testing"

	"arithmetica/api"
	"arithmetica/sample"
)

func TestAStreamHandsOutTheSameEachTime(t *testing.T) {
	one, other := sample.NewStream(), sample.NewStream()
	seen := map[int]int{}
	for range 2000 {
		n, below := one.UpTo(3), one.Below(5)
		if n != other.UpTo(3) || below != other.Below(5) {
			t.Fatal("two streams differ")
		}
		if n < -3 || n > 3 || below < 0 || below > 4 {
			t.Fatalf("%d and %d are beyond their bounds", n, below)
		}
		seen[n]++
		seen[10+below]++
	}
	if len(seen) != 7+5 {
		t.Errorf("not each number comes: %v", seen)
	}
}

func TestFilledGoesAlongTheRows(t *testing.T) {
	m := sample.Filled(2, 3, func(i, j int) int { return 10*i + j })
	if fmt.Sprint(m, sample.Ones(2, 3)) != "[[0 1 2] [10 11 12]] [[1 1 1] [1 2 3]]" {
		t.Errorf("%v", m)
	}
}

// TestGuardedIsACopy: what is changed in it, and what lies behind its lengths, is not to be seen in m.
func TestGuardedIsACopy(t *testing.T) {
	m := sample.Ones(2, 2)
	changed := sample.Longer(sample.With(m, 1, 1, 7), 0, 1)
	if fmt.Sprint(m, changed) != "[[1 1] [1 2]] [[0] [1 7]]" {
		t.Errorf("%v and %v", m, changed)
	}
	if text := fmt.Sprint(sample.Memory(sample.Guarded(m))); text != "[[2 1 1 99 98] [2 1 2 99 98] [2 77 78] [0]]" {
		t.Errorf("the memory of a copy: %s", text)
	}
}

func TestSpoiltHasEachFault(t *testing.T) {
	for most := 3; most <= 8; most++ {
		kinds := map[string]int{}
		for _, m := range sample.Spoilt(most) {
			switch {
			case len(m) == 0 || len(m) > most || len(m[0]) == 0 || len(m[0]) > 8:
				kinds["many"]++
			case slices.ContainsFunc(m, func(row []int) bool { return len(row) != len(m[0]) }):
				kinds["length"]++
			case slices.ContainsFunc(slices.Concat(m...), func(n int) bool { return n > api.MaxSmall || n < -api.MaxSmall }):
				kinds["great"]++
			default:
				t.Fatalf("nothing is wrong with %v", m)
			}
		}
		if len(kinds) != 3 {
			t.Errorf("of up to %d rows there are %v", most, kinds)
		}
	}
}
