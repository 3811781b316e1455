package torsion_test

import (
	"math"
	"slices"
	"testing"

	"arithmetica/api"
	"arithmetica/sample"
	"arithmetica/torsion"
)

// hasADoubleRoot tells whether X^3 + a X + b has a root twice, and so is (X - n)^2 (X + 2 n): then, and only then, 4 a^3 + 27 b^2 is 0.
func hasADoubleRoot(a, b int) bool {
	for n := -20; n <= 20; n++ {
		if a == -3*n*n && b == 2*n*n*n {
			return true
		}
	}
	return false
}

// wantCheck is P15.1, sentence by sentence.
func wantCheck(a, b int) api.Fault {
	switch {
	case a < -1000 || a > 1000:
		return faultOf(api.ErrRange, 0)
	case b < -1000 || b > 1000:
		return faultOf(api.ErrRange, 1)
	case hasADoubleRoot(a, b):
		return faultOf(api.ErrForm, 0)
	}
	return none
}

// checkFaults holds all calls against what they must tell; with a fault, all else is zero.
func checkFaults(t *testing.T, a, b int, want api.Fault) {
	t.Helper()
	if f := torsion.Check(a, b); f != want {
		t.Fatalf("Check(%d, %d): %v, want %v", a, b, f, want)
	}
	if list, f := torsion.Points(a, b); f != want || (len(list) == 0) != (f != none) {
		t.Fatalf("Points(%d, %d): %v, %v, want %v", a, b, list, f, want)
	}
	if n1, n2, f := torsion.Shape(a, b); f != want || (n1 == 0) != (f != none) || (n2 == 0) != (f != none) {
		t.Fatalf("Shape(%d, %d): %d, %d, %v, want %v", a, b, n1, n2, f, want)
	}
}

// TestCheckOfAllNumbersWithinTheBounds: and of those a little beyond; only n from -7 to 7 have their double root there.
func TestCheckOfAllNumbersWithinTheBounds(t *testing.T) {
	outcomes := map[api.Fault]int{}
	for a := -1010; a <= 1010; a++ {
		for b := -1010; b <= 1010; b++ {
			f := torsion.Check(a, b)
			if f != wantCheck(a, b) {
				t.Fatalf("Check(%d, %d): %v, want %v", a, b, f, wantCheck(a, b))
			}
			outcomes[f]++
		}
	}
	if outcomes[faultOf(api.ErrForm, 0)] != 15 || outcomes[none] != 2001*2001-15 {
		t.Errorf("%v", outcomes)
	}
}

func TestFaultsOfChosenNumbers(t *testing.T) {
	for _, c := range []struct {
		a, b int
		want api.Fault
	}{
		{0, 0, faultOf(6, 0)},
		{-3, 2, faultOf(6, 0)},
		{-3, -2, faultOf(6, 0)},
		{-12, 16, faultOf(6, 0)},
		{-147, 686, faultOf(6, 0)},
		{-147, -686, faultOf(6, 0)},
		{3, 2, none},
		{-3, 1, none},
		{-3, 3, none},
		{-147, 685, none},
		{-147, 687, none},
		{-148, 686, none},
		{0, 1, none},
		{1, 0, none},
		{1000, 1000, none},
		{1000, -1000, none},
		{-1000, 1000, none},
		{-1000, -1000, none},
		{0, 1000, none},
		{-1000, 0, none},
		{1001, 0, faultOf(3, 0)},
		{-1001, 0, faultOf(3, 0)},
		{0, 1001, faultOf(3, 1)},
		{0, -1001, faultOf(3, 1)},
		{1, 1001, faultOf(3, 1)},
		{1001, 1001, faultOf(3, 0)},
		{-1001, -1001, faultOf(3, 0)},
		{1001, -1001, faultOf(3, 0)},
		{1000, 1001, faultOf(3, 1)},
		{1001, 1000, faultOf(3, 0)},
		{-192, 1024, faultOf(3, 1)},
		{-192, -1024, faultOf(3, 1)},
		{-1200, 16000, faultOf(3, 0)},
		{-1200, 0, faultOf(3, 0)},
		{math.MinInt, 0, faultOf(3, 0)},
		{math.MaxInt, 0, faultOf(3, 0)},
		{0, math.MinInt, faultOf(3, 1)},
		{0, math.MaxInt, faultOf(3, 1)},
		{math.MinInt, math.MaxInt, faultOf(3, 0)},
		{1 << 32, 1 << 32, faultOf(3, 0)},
		{0, 1 << 32, faultOf(3, 1)},
		{-1 << 62, 0, faultOf(3, 0)},
		{1<<32 - 3, 2, faultOf(3, 0)},
	} {
		if wantCheck(c.a, c.b) != c.want {
			t.Errorf("the test's own fault of %d, %d is %v", c.a, c.b, wantCheck(c.a, c.b))
		}
		checkFaults(t, c.a, c.b, c.want)
	}
}

// TestAllTellTheFaultsInOrder: each kind of wrong a beside each kind of wrong b, with the edges of an int.
func TestAllTellTheFaultsInOrder(t *testing.T) {
	edges := slices.Concat(sample.Edges(), sample.Beyond(), []int{-1002, -1001, -1000, -999, -147, -12, -3, 16, 686, 999, 1000, 1001, 1002})
	outcomes := map[api.Fault]int{}
	for _, a := range edges {
		for _, b := range edges {
			want := wantCheck(a, b)
			checkFaults(t, a, b, want)
			outcomes[want]++
		}
	}
	for _, f := range []api.Fault{none, faultOf(api.ErrRange, 0), faultOf(api.ErrRange, 1), faultOf(api.ErrForm, 0)} {
		if outcomes[f] == 0 {
			t.Errorf("%v was not met: %v", f, outcomes)
		}
	}
}
