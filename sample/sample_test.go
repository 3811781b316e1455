package sample_test

import (
	"math/bits"
	"slices"
	"testing"

	"arithmetica/api"
	"arithmetica/sample"
)

// TestNumbersAreOfAllKinds: a sample that lost a kind of number would leave the tests that use it empty.
func TestNumbersAreOfAllKinds(t *testing.T) {
	list := sample.Numbers(1000)
	for length := range 60 {
		for _, sign := range []int{1, -1} {
			if !slices.ContainsFunc(list, func(n int) bool { return bits.Len64(uint64(max(n, -n))) == length && sign*n >= 0 }) {
				t.Errorf("no number of %d bits, of the sign %d", length, sign)
			}
		}
	}
	for _, n := range list {
		if n < -api.MaxNum || n > api.MaxNum {
			t.Errorf("%d is no number", n)
		}
	}
	for _, n := range []int{-api.MaxNum, 0, 1, api.MaxNum} {
		if !slices.Contains(list, n) {
			t.Errorf("%d is missing", n)
		}
	}
}

func TestPositiveAreThoseAboveNought(t *testing.T) {
	want := 0
	for _, n := range sample.Numbers(100) {
		if n > 0 {
			want++
		}
	}
	list := sample.Positive(100)
	if len(list) != want || slices.Min(list) != 1 || slices.Max(list) != api.MaxNum {
		t.Errorf("%d numbers from %d to %d, want %d from 1 to MaxNum", len(list), slices.Min(list), slices.Max(list), want)
	}
}
