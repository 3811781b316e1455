package sample_test

import (
	"math/bits"
	"slices"
	"testing"

	"arithmetica/api"
	"arithmetica/sample"
)

// TestNumbersAreOfAllKinds: a sample that lost a kind of number would leave the tests that use it empty.
func TestNumbersAreOfAllKinds(t *testing.T) {
	list := sample.Numbers(1000)
	for length := range 60 {
		for _, sign := range []int{1, -1} {
			if !slices.ContainsFunc(list, func(n int) bool { return bits.Len64(uint64(max(n, -n))) == length && sign*n >= 0 }) {
				t.Errorf("no number of %d bits, of the sign %d", length, sign)
			}
		}
	}
	for _, n := range list {
		if n < -api.MaxNum || n > api.MaxNum {
			t.Errorf("%d is no number", n)
		}
	}
	for _, n := range []int{-api.MaxNum, 0, 1, api.MaxNum} {
		if !slices.Contains(list, n) {
			t.Errorf("%d is missing", n)
		}
	}
}

func TestPositiveAreThoseAboveNought(t *testing.T) {
	want := 0
	for _, n := range sample.Numbers(100) {
		if n > 0 {
			want++
		}
	}
	list := sample.Positive(100)
	if len(list) != want || slices.Min(list) != 1 || slices.Max(list) != api.MaxNum {
		t.Errorf("%d numbers from %d to %d, want %d from 1 to MaxNum", len(list), slices.Min(list), slices.Max(list), want)
	}
}

func TestPairsAreOfAllKinds(t *testing.T) {
	const many = 5000
	list := sample.Pairs(many)
	if len(list) < many*9/10 || len(list) > many*11/10 {
		t.Errorf("%d pairs, and not about %d", len(list), many)
	}
	for length := range 30 {
		for quadrant := range 4 {
			if !slices.ContainsFunc(list, func(x api.Pair) bool { return isOfKind(x, length, quadrant) }) {
				t.Errorf("no pair of %d bits in the quadrant %d", length, quadrant)
			}
		}
	}
	for _, x := range list {
		if max(x.A, -x.A, x.B, -x.B) > api.MaxPart {
			t.Errorf("%v is beyond the bound", x)
		}
	}
	for _, x := range []api.Pair{{}, {A: api.MaxPart, B: -api.MaxPart}, {A: -api.MaxPart, B: api.MaxPart}, {A: 1}, {B: -api.MaxPart}} {
		if !slices.Contains(list, x) {
			t.Errorf("%v is missing", x)
		}
	}
}

// isOfKind tells whether the greater part of x, in size, has so many bits, and whether x lies in the quadrant, of which 2 is where A is below 0, and 1 where B is.
func isOfKind(x api.Pair, length, quadrant int) bool {
	if quadrant&2 != 0 {
		x.A = -x.A
	}
	if quadrant&1 != 0 {
		x.B = -x.B
	}
	return x.A >= 0 && x.B >= 0 && bits.Len64(uint64(max(x.A, x.B))) == length
}
