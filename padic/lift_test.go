package padic_test

import (
	"slices"
	"testing"

	"arithmetica/api"
	"arithmetica/padic"
	"arithmetica/sample"
)

// wrongLift tells what Lift must say of its arguments.
func wrongLift(p, k int, l []int, x int) api.Fault {
	if f := wrongPolynomial(p, k, l); f != none {
		return f
	}
	if x < 0 || x > p-1 {
		return faultOf(api.ErrRange, 3)
	}
	if value(l, x, p) != 0 {
		return faultOf(api.ErrFalse, 3)
	}
	if slope(l, x, p) == 0 {
		return faultOf(api.ErrForm, 3)
	}
	return none
}

// checkLift holds Lift against what it must leave, by long numbers.
func checkLift(t *testing.T, p, k int, l []int, x int) api.Fault {
	t.Helper()
	want := wrongLift(p, k, l, x)
	y, f := padic.Lift(p, k, l, x)
	if f != want || want != none && y != 0 {
		t.Fatalf("Lift(%d, %d, %v, %d): %d, %v, want %v", p, k, l, x, y, f, want)
	}
	if want == none && !isLift(power{p, k}, l, x, y) {
		t.Fatalf("Lift(%d, %d, %v, %d): %d", p, k, l, x, y)
	}
	return want
}

// isLift is the chapter's sentence.
func isLift(m power, l []int, x, y int) bool {
	return 0 <= y && y < m.number() && y%m.p == x && value(l, y, m.number()) == 0
}

// checkOnly tries all numbers from 0 to M - 1: Lift's answer is the only one (Hensel).
func checkOnly(t *testing.T, m power, l []int, x int) {
	t.Helper()
	var list []int
	for y := range m.number() {
		if isLift(m, l, x, y) {
			list = append(list, y)
		}
	}
	y, f := padic.Lift(m.p, m.k, l, x)
	if f != none || !slices.Equal(list, []int{y}) {
		t.Fatalf("Lift(%d, %d, %v, %d): %d, %v, want %v", m.p, m.k, l, x, y, f, list)
	}
}

func checkKinds(t *testing.T, kinds map[api.Fault]int, least int, wanted ...api.Fault) {
	t.Helper()
	for _, kind := range wanted {
		if kinds[kind] < least {
			t.Errorf("%v is only told %d times", kind, kinds[kind])
		}
	}
}

// TestLiftByTryingAll: P10.2 with small M, all x, and polynomials of all lengths.
func TestLiftByTryingAll(t *testing.T) {
	kinds := map[api.Fault]int{}
	polynomials := drawnPolynomials(4)
	for _, m := range powersOf(350, 2, 3, 5, 7, 11, 13, 17, 97) {
		for _, l := range polynomials {
			for x := range m.p {
				kind := checkLift(t, m.p, m.k, l, x)
				if kind == none {
					checkOnly(t, m, l, x)
				}
				kinds[kind]++
			}
		}
	}
	checkKinds(t, kinds, 300, none, faultOf(api.ErrFalse, 3), faultOf(api.ErrForm, 3))
}

// TestLiftOfSquares: P10.2 with all x^2 + b x + c by small powers, where value and derivative leave each pair that they may.
func TestLiftOfSquares(t *testing.T) {
	kinds := map[api.Fault]int{}
	for _, m := range powersOf(50, 2, 3, 5, 7) {
		for b := range m.number() {
			for c := range m.number() {
				for x := range m.p {
					l := []int{c - m.number(), b, 1}
					kind := checkLift(t, m.p, m.k, l, x)
					if kind == none {
						checkOnly(t, m, l, x)
					}
					kinds[kind]++
				}
			}
		}
	}
	checkKinds(t, kinds, 1000, none, faultOf(api.ErrFalse, 3), faultOf(api.ErrForm, 3))
}

// through answers l with another constant number, so that it leaves 0 at x, left by p.
func through(l []int, p, x int) []int {
	l = slices.Clone(l)
	if l[0] > 0 {
		l[0] -= value(l, x, p)
	} else {
		l[0] += (p - value(l, x, p)) % p
	}
	return l
}

// TestLiftOfAllLengths: P10.2 by all powers of chosen primes, with numbers of all lengths up to MaxNum.
func TestLiftOfAllLengths(t *testing.T) {
	kinds := map[api.Fault]int{}
	polynomials := drawnPolynomials(3)
	for _, edge := range []int{-top, 1 - top, top - 1, top} {
		for _, terms := range []int{1, 2, 3, 12, 13} {
			polynomials = append(polynomials, slices.Repeat([]int{edge}, terms))
		}
	}
	for _, m := range powersOf(top, chosenPrimes()...) {
		for i, l := range polynomials {
			starts := []int{0, 1, m.p / 2, m.p - 1, i * 7919 % m.p}
			for _, x := range starts {
				kinds[checkLift(t, m.p, m.k, l, x)]++
				if len(l) > 0 {
					kinds[checkLift(t, m.p, m.k, through(l, m.p, x), x)]++
				}
			}
		}
	}
	checkKinds(t, kinds, 1000, none, faultOf(api.ErrFalse, 3), faultOf(api.ErrForm, 3))
}

// TestLiftFindsKnownRoots: P10.2 where the only answer is known, however great M is.
func TestLiftFindsKnownRoots(t *testing.T) {
	for _, m := range powersOf(top, chosenPrimes()...) {
		for many := 1; many <= 12; many++ {
			list := differing(m, many)
			l := polynomialAt(list, m.number())
			for _, root := range list {
				if y, f := padic.Lift(m.p, m.k, l, root%m.p); y != root || f != none {
					t.Fatalf("Lift(%d, %d, %v, %d): %d, %v, want %d", m.p, m.k, l, root%m.p, y, f, root)
				}
			}
		}
	}
}

// TestWildLift: P1, and the order of the faults: what may stand in each place stands beside what may not.
func TestWildLift(t *testing.T) {
	for _, p := range wildPrimes() {
		for _, k := range wildExponents() {
			for _, l := range wildPolynomials() {
				for _, x := range append(sample.Edges(), p-1, p) {
					checkLift(t, p, k, l, x)
				}
			}
		}
	}
}

func TestLiftOfChosenNumbers(t *testing.T) {
	for _, c := range []struct {
		p, k    int
		l       []int
		x, want int
	}{
		{7, 3, []int{-2, 0, 1}, 3, 108},
		{7, 3, []int{-2, 0, 1}, 4, 235},
		{7, 1, []int{-2, 0, 1}, 3, 3},
		{7, 1, []int{0, 1}, 0, 0},
		{2, 59, []int{-1, 1}, 1, 1},
		{2, 59, []int{1, 1}, 1, 1<<59 - 1},
		{2, 59, []int{0, 1, 2}, 0, 0},
		{2, 59, []int{1, 3}, 1, 384307168202282325},
		{2, 1, []int{1, 1}, 1, 1},
		{5, 25, []int{top, 1}, 0, raised(5, 25) - top%raised(5, 25)},
		{999983, 3, []int{-top, 1}, 4913, top % raised(999983, 3)},
		{999983, 3, []int{1, 1}, 999982, raised(999983, 3) - 1},
		{999983, 3, []int{0, 1}, 0, 0},
		{13, 16, []int{-1, 0, 0, 0, 0, 0, 0, 0, 0, 0, 0, 0, 1}, 12, raised(13, 16) - 1},
	} {
		if y, f := padic.Lift(c.p, c.k, c.l, c.x); y != c.want || f != none {
			t.Errorf("Lift(%d, %d, %v, %d): %d, %v, want %d", c.p, c.k, c.l, c.x, y, f, c.want)
		}
	}
}

func TestWrongLift(t *testing.T) {
	fourteen := append(slices.Repeat([]int{0}, 13), top+1)
	for _, c := range []struct {
		p, k int
		l    []int
		x    int
		want api.Fault
	}{
		{1, 0, fourteen, -1, faultOf(api.ErrRange, 0)},
		{1000003, 1, []int{0, 1}, 0, faultOf(api.ErrRange, 0)},
		{15, 0, fourteen, -1, faultOf(api.ErrKind, 0)},
		{5, 0, fourteen, -1, faultOf(api.ErrRange, 1)},
		{5, 61, fourteen, -1, faultOf(api.ErrRange, 1)},
		{5, 60, fourteen, -1, faultOf(api.ErrMuch, 1)},
		{5, 26, []int{0, 1}, 0, faultOf(api.ErrMuch, 1)},
		{5, 25, fourteen, -1, faultOf(api.ErrMany, 2)},
		{5, 25, slices.Repeat([]int{0}, 14), 0, faultOf(api.ErrMany, 2)},
		{5, 25, fourteen[1:], -1, faultOf(api.ErrRange, 2)},
		{5, 25, []int{-top - 1, 1}, 0, faultOf(api.ErrRange, 2)},
		{5, 25, []int{0, 1}, -1, faultOf(api.ErrRange, 3)},
		{5, 25, []int{0, 1}, 5, faultOf(api.ErrRange, 3)},
		{5, 25, []int{1}, 5, faultOf(api.ErrRange, 3)},
		{5, 25, nil, 5, faultOf(api.ErrRange, 3)},
		{7, 3, []int{-2, 0, 1}, 2, faultOf(api.ErrFalse, 3)},
		{7, 3, []int{1}, 0, faultOf(api.ErrFalse, 3)}, // where the derivative leaves 0, too
		{7, 3, []int{1, 7}, 0, faultOf(api.ErrFalse, 3)},
		{7, 3, []int{-1, 0, 0, 0, 0, 0, 0, 1}, 0, faultOf(api.ErrFalse, 3)},
		{7, 3, []int{0, 0, 1}, 0, faultOf(api.ErrForm, 3)},
		{7, 3, []int{-1, 0, 0, 0, 0, 0, 0, 1}, 1, faultOf(api.ErrForm, 3)}, // by p, the derivative of x^7 leaves 0
		{2, 3, []int{-1, 0, 1}, 1, faultOf(api.ErrForm, 3)},
		{7, 3, []int{0}, 3, faultOf(api.ErrForm, 3)},
		{7, 3, []int{7, 14, 21}, 3, faultOf(api.ErrForm, 3)},
		{7, 3, nil, 3, faultOf(api.ErrForm, 3)},
		{7, 1, []int{}, 6, faultOf(api.ErrForm, 3)},
	} {
		if y, f := padic.Lift(c.p, c.k, c.l, c.x); y != 0 || f != c.want {
			t.Errorf("Lift(%d, %d, %v, %d): %d, %v, want %v", c.p, c.k, c.l, c.x, y, f, c.want)
		}
	}
}

// TestLiftOnlyReads: neither a list nor what lies behind its length is changed, or read.
func TestLiftOnlyReads(t *testing.T) {
	memory := append([]int{-2, 0, 1}, slices.Repeat([]int{top + 1}, 20)...)
	kept := slices.Clone(memory)
	if y, f := padic.Lift(7, 3, memory[:3], 3); y != 108 || f != none {
		t.Errorf("Lift: %d, %v", y, f)
	}
	if !slices.Equal(memory, kept) {
		t.Errorf("the memory is now %v", memory)
	}
}
