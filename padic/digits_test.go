package padic_test

import (
	"math/big"
	"slices"
	"testing"

	"arithmetica/api"
	"arithmetica/padic"
	"arithmetica/sample"
)

// wrongDigits tells what Digits must say of its arguments.
func wrongDigits(p, k, a, b int) api.Fault {
	if f := wrongPower(p, k); f != none {
		return f
	}
	for i, n := range []int{a, b} {
		if !isNumber(n) {
			return faultOf(api.ErrRange, 2+i)
		}
	}
	if b%p == 0 {
		return faultOf(api.ErrZero, 3)
	}
	return none
}

// checkDigits holds Digits against the chapter's sentence, by long numbers: as p does not divide b, there is only one x.
func checkDigits(t *testing.T, p, k, a, b int) api.Fault {
	t.Helper()
	want := wrongDigits(p, k, a, b)
	list, f := padic.Digits(p, k, a, b)
	if f != want || want != none && len(list) != 0 || want == none && len(list) != k {
		t.Fatalf("Digits(%d, %d, %d, %d): %v, %v, want %v", p, k, a, b, list, f, want)
	}
	if want != none {
		return want
	}
	x := new(big.Int)
	for _, digit := range slices.Backward(list) {
		if digit < 0 || digit >= p {
			t.Fatalf("Digits(%d, %d, %d, %d): %v", p, k, a, b, list)
		}
		x.Add(x.Mul(x, large(p)), large(digit))
	}
	x.Sub(x.Mul(x, large(b)), large(a))
	if x.Mod(x, longRaised(p, k)).Sign() != 0 {
		t.Fatalf("Digits(%d, %d, %d, %d): %v, which leave %d", p, k, a, b, list, x)
	}
	return none
}

// TestDigitsOfAllLengths: P10.1 by all powers of chosen primes.
func TestDigitsOfAllLengths(t *testing.T) {
	kinds := map[api.Fault]int{}
	numbers := sample.Numbers(30)
	for _, m := range powersOf(top, chosenPrimes()...) {
		edges := []int{m.p, -m.p, m.number(), -m.number(), m.number() - 1, 1 - m.number(), m.number() / m.p}
		for _, a := range append(edges, numbers...) {
			for _, b := range append(edges, numbers...) {
				kinds[checkDigits(t, m.p, m.k, a, b)]++
			}
		}
	}
	for _, kind := range []api.Fault{none, faultOf(api.ErrZero, 3)} {
		if kinds[kind] < 10000 {
			t.Errorf("%v is only told %d times", kind, kinds[kind])
		}
	}
}

// TestDigitsByAllSmallPrimes: P10.1 with all small a and b, of both signs.
func TestDigitsByAllSmallPrimes(t *testing.T) {
	for _, m := range powersOf(130, primesUpTo(130)...) {
		for a := -m.p - 1; a <= m.p+1; a++ {
			for b := -m.p - 1; b <= m.p+1; b++ {
				checkDigits(t, m.p, m.k, a, b)
			}
		}
	}
}

// TestWildDigits: P1, and the order of the faults: what may stand in each place stands beside what may not.
func TestWildDigits(t *testing.T) {
	for _, p := range wildPrimes() {
		for _, k := range wildExponents() {
			for _, a := range sample.Edges() {
				for _, b := range append(sample.Edges(), p, -p) {
					checkDigits(t, p, k, a, b)
				}
			}
		}
	}
}

func TestDigitsOfChosenNumbers(t *testing.T) {
	for _, c := range []struct {
		p, k, a, b int
		want       []int
	}{
		{5, 4, 1, 3, []int{2, 3, 1, 3}},
		{2, 5, -1, 1, []int{1, 1, 1, 1, 1}},
		{2, 1, 1, 1, []int{1}},
		{2, 1, 0, 1, []int{0}},
		{2, 10, 1, -3, []int{1, 0, 1, 0, 1, 0, 1, 0, 1, 0}},
		{7, 3, -1, 2, []int{3, 3, 3}},
		{3, 4, 0, -5, []int{0, 0, 0, 0}},
		{3, 5, top, -top, []int{2, 2, 2, 2, 2}},
		{5, 3, 25, 1, []int{0, 0, 1}},
		{5, 3, -25, 1, []int{0, 0, 4}},
		{5, 3, 125, 1, []int{0, 0, 0}},
		{31607, 4, 1, -2, []int{15803, 15803, 15803, 15803}},
		{10007, 4, -top, 3, []int{6694, 2361, 3547, 932}},
		{999983, 3, -top, top, []int{999982, 999982, 999982}},
		{999983, 3, top, top - 1, []int{540912, 794168, 185024}},
		{2, 59, -1, 1, slices.Repeat([]int{1}, 59)},
		{2, 59, 1, 1, append([]int{1}, slices.Repeat([]int{0}, 58)...)},
	} {
		if list, f := padic.Digits(c.p, c.k, c.a, c.b); !slices.Equal(list, c.want) || f != none {
			t.Errorf("Digits(%d, %d, %d, %d): %v, %v, want %v", c.p, c.k, c.a, c.b, list, f, c.want)
		}
	}
}

func TestWrongDigits(t *testing.T) {
	for arguments, want := range map[[4]int]api.Fault{
		{1, 0, top + 1, top + 1}:       faultOf(api.ErrRange, 0),
		{1000003, 1, 1, 1}:             faultOf(api.ErrRange, 0),
		{-5, 1, 1, 1}:                  faultOf(api.ErrRange, 0),
		{9, 0, top + 1, 0}:             faultOf(api.ErrKind, 0),
		{small, 61, 1, 1}:              faultOf(api.ErrKind, 0),
		{2, 0, top + 1, 0}:             faultOf(api.ErrRange, 1),
		{2, 61, 1, 1}:                  faultOf(api.ErrRange, 1),
		{999983, 61, 1, 1}:             faultOf(api.ErrRange, 1),
		{2, 60, -top - 1, 0}:           faultOf(api.ErrMuch, 1),
		{999983, 4, 1, 1}:              faultOf(api.ErrMuch, 1),
		{5, 26, 1, 5}:                  faultOf(api.ErrMuch, 1),
		{5, 4, top + 1, top + 1}:       faultOf(api.ErrRange, 2),
		{5, 4, -top - 1, 10}:           faultOf(api.ErrRange, 2),
		{5, 4, 1, top + 1}:             faultOf(api.ErrRange, 3),
		{5, 4, 1, -top - 5}:            faultOf(api.ErrRange, 3), // ahead of what p divides
		{5, 4, 1, 10}:                  faultOf(api.ErrZero, 3),
		{5, 4, 1, -5}:                  faultOf(api.ErrZero, 3),
		{5, 4, 5, 5}:                   faultOf(api.ErrZero, 3),
		{5, 4, 0, 0}:                   faultOf(api.ErrZero, 3),
		{2, 1, 1, top}:                 faultOf(api.ErrZero, 3),
		{5, 25, top, -top}:             faultOf(api.ErrZero, 3),
		{999983, 1, 1, 999983}:         faultOf(api.ErrZero, 3),
		{999983, 3, 1, -999983 * 9999}: faultOf(api.ErrZero, 3),
	} {
		if list, f := padic.Digits(arguments[0], arguments[1], arguments[2], arguments[3]); len(list) != 0 || f != want {
			t.Errorf("Digits%v: %v, %v, want %v", arguments, list, f, want)
		}
	}
}

func TestDigitsAreNewMemory(t *testing.T) {
	one, _ := padic.Digits(5, 4, 1, 3)
	clear(one[:cap(one)])
	if other, _ := padic.Digits(5, 4, 1, 3); !slices.Equal(other, []int{2, 3, 1, 3}) {
		t.Errorf("Digits(5, 4, 1, 3): %v after the first answer was changed", other)
	}
}
