package padic_test

import (
	"math/big"
	"testing"

	"arithmetica/api"
	"arithmetica/padic"
	"arithmetica/sample"
)

// wrongTeich tells what Teich must say of its arguments.
func wrongTeich(p, k, a int) api.Fault {
	if f := wrongPower(p, k); f != none {
		return f
	}
	if a < 0 || a > p-1 {
		return faultOf(api.ErrRange, 2)
	}
	return none
}

// checkTeich holds Teich against the chapter's sentence, by long numbers.
func checkTeich(t *testing.T, p, k, a int) {
	t.Helper()
	want := wrongTeich(p, k, a)
	x, f := padic.Teich(p, k, a)
	if f != want || want != none && x != 0 {
		t.Fatalf("Teich(%d, %d, %d): %d, %v, want %v", p, k, a, x, f, want)
	}
	if want == none && !isTeich(power{p, k}, a, x) {
		t.Fatalf("Teich(%d, %d, %d): %d", p, k, a, x)
	}
}

// isTeich is the chapter's sentence.
func isTeich(m power, a, x int) bool {
	return 0 <= x && x < m.number() && x%m.p == a && new(big.Int).Exp(large(x), large(m.p), large(m.number())).Cmp(large(x)) == 0
}

// TestTeichByTryingAll: P10.4, and that there is no other.
func TestTeichByTryingAll(t *testing.T) {
	for _, m := range powersOf(1400, primesUpTo(1400)...) {
		found := make([]int, m.p)
		for x := range m.number() {
			if isTeich(m, x%m.p, x) {
				found[x%m.p]++
				if got, f := padic.Teich(m.p, m.k, x%m.p); got != x || f != none {
					t.Fatalf("Teich(%d, %d, %d): %d, %v, want %d", m.p, m.k, x%m.p, got, f, x)
				}
			}
		}
		for a, many := range found {
			if many != 1 {
				t.Fatalf("there are %d numbers for Teich(%d, %d, %d)", many, m.p, m.k, a)
			}
		}
	}
}

// TestTeichOfAllLengths: P10.4 by all powers of chosen primes.
func TestTeichOfAllLengths(t *testing.T) {
	for _, m := range powersOf(top, chosenPrimes()...) {
		for a := range min(m.p, 1000) {
			checkTeich(t, m.p, m.k, a)
			checkTeich(t, m.p, m.k, m.p-1-a)
		}
		for _, n := range sample.Spread(50) {
			checkTeich(t, m.p, m.k, max(n, -n)%m.p)
		}
		for _, a := range []int{-1, m.p, m.p + 1, -m.p, m.number() - 1, m.number(), -m.number()} {
			checkTeich(t, m.p, m.k, a)
		}
	}
}

// TestWildTeich: P1, and the order of the faults.
func TestWildTeich(t *testing.T) {
	for _, p := range wildPrimes() {
		for _, k := range wildExponents() {
			for _, a := range sample.Edges() {
				checkTeich(t, p, k, a)
			}
		}
	}
}

func TestTeichOfChosenNumbers(t *testing.T) {
	for _, c := range []struct{ p, k, a, want int }{
		{5, 3, 2, 57},
		{5, 3, 3, 68},
		{5, 1, 3, 3},
		{7, 2, 3, 31},
		{2, 1, 0, 0},
		{2, 1, 1, 1},
		{2, 59, 0, 0},
		{2, 59, 1, 1},
		{3, 37, 0, 0},
		{3, 37, 1, 1},
		{3, 37, 2, raised(3, 37) - 1},
		{999983, 1, 999982, 999982},
		{999983, 3, 0, 0},
		{999983, 3, 1, 1},
		{999983, 3, 999982, raised(999983, 3) - 1},
		{31607, 4, 31606, raised(31607, 4) - 1},
	} {
		if x, f := padic.Teich(c.p, c.k, c.a); x != c.want || f != none {
			t.Errorf("Teich(%d, %d, %d): %d, %v, want %d", c.p, c.k, c.a, x, f, c.want)
		}
	}
}

func TestWrongTeich(t *testing.T) {
	for arguments, want := range map[[3]int]api.Fault{
		{0, 1, 0}:          faultOf(api.ErrRange, 0),
		{1, 0, -1}:         faultOf(api.ErrRange, 0),
		{-3, 1, 1}:         faultOf(api.ErrRange, 0),
		{small + 1, 1, 1}:  faultOf(api.ErrRange, 0),
		{1000003, 61, 1}:   faultOf(api.ErrRange, 0),
		{6, 3, 2}:          faultOf(api.ErrKind, 0),
		{4, 0, -1}:         faultOf(api.ErrKind, 0),
		{small, 60, 1}:     faultOf(api.ErrKind, 0),
		{5, 0, 7}:          faultOf(api.ErrRange, 1),
		{5, -1, 1}:         faultOf(api.ErrRange, 1),
		{5, 61, 1}:         faultOf(api.ErrRange, 1),
		{5, 60, 7}:         faultOf(api.ErrMuch, 1),
		{5, 26, 1}:         faultOf(api.ErrMuch, 1),
		{2, 60, 1}:         faultOf(api.ErrMuch, 1),
		{3, 38, 0}:         faultOf(api.ErrMuch, 1),
		{5, 25, 5}:         faultOf(api.ErrRange, 2),
		{5, 25, -1}:        faultOf(api.ErrRange, 2),
		{2, 1, 2}:          faultOf(api.ErrRange, 2),
		{2, 59, top + 1}:   faultOf(api.ErrRange, 2),
		{2, 59, -top - 1}:  faultOf(api.ErrRange, 2),
		{999983, 3, small}: faultOf(api.ErrRange, 2),
	} {
		if x, f := padic.Teich(arguments[0], arguments[1], arguments[2]); x != 0 || f != want {
			t.Errorf("Teich%v: %d, %v, want %v", arguments, x, f, want)
		}
	}
}
