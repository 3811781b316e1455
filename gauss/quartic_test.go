package gauss_test

import (
	"math/big"
	"slices"
	"testing"

	"arithmetica/api"
	"arithmetica/gauss"
	"arithmetica/sample"
)

// checkQuartic holds P6.3 against long numbers, for a prime p with an odd norm, and answers what was answered.
func checkQuartic(t *testing.T, x, p api.Pair) int {
	t.Helper()
	got, f := gauss.Quartic(x, p)
	if divides(p, x) {
		if got != 0 || f != faultOf(api.ErrZero, 0) {
			t.Fatalf("Quartic(%v, %v): %d, %v, want ErrZero at 0", x, p, got, f)
		}
		return got
	}
	power := longOf(x).power(new(big.Int).Rsh(longOf(p).norm(), 2), longOf(p)) // N leaves 1 by 4
	if got < 0 || got > 3 || f != none || !power.minus(longOf(turned(pair(1, 0), got))).isTimes(longOf(p)) {
		t.Fatalf("Quartic(%v, %v): %d, %v", x, p, got, f)
	}
	return got
}

// triedQuartic multiplies so often as the power says, and tries which power of i is left.
func triedQuartic(x, p api.Pair) int {
	power := longOf(pair(1, 0))
	for range (norm(p) - 1) / 4 {
		power = power.times(longOf(x))
		power = power.minus(power.rounded(longOf(p)).times(longOf(p)))
	}
	return slices.IndexFunc([]api.Pair{pair(1, 0), pair(0, 1), pair(-1, 0), pair(0, -1)}, func(unit api.Pair) bool {
		return power.minus(longOf(unit)).isTimes(longOf(p))
	})
}

// TestQuarticByTryingAll: P6.3, of small numbers, by each of those that differ from a prime by a unit.
func TestQuarticByTryingAll(t *testing.T) {
	for _, chief := range triedPrimes(130)[1:] {
		for turns := range 4 {
			p := turned(chief, turns)
			seen := map[int]bool{}
			for _, x := range within(5) {
				want, wantFault := 0, none
				if divides(p, x) {
					wantFault = faultOf(api.ErrZero, 0)
				} else {
					want = triedQuartic(x, p)
					seen[want] = true
				}
				if got, f := gauss.Quartic(x, p); got != want || f != wantFault {
					t.Fatalf("Quartic(%v, %v): %d, %v, want %d, %v", x, p, got, f, want, wantFault)
				}
			}
			if len(seen) != 4 {
				t.Errorf("by %v, only %v were answered", p, seen)
			}
		}
	}
}

// TestQuarticOfGreatNumbers: great primes and small ones, great x and small ones, and x that p divides.
func TestQuarticOfGreatNumbers(t *testing.T) {
	primes := append(greatPrimes(), triedPrimes(500)[1:]...)
	numbers := sample.Pairs(40)
	for _, p := range primes {
		seen := map[int]bool{}
		for _, x := range numbers {
			seen[checkQuartic(t, x, p)] = true
		}
		for _, y := range []api.Pair{pair(1, 0), pair(0, -1), pair(2, -3), pair(0, 20)} {
			if x, fits := longOf(p).times(longOf(y)).pair(); fits && isPair(x) {
				checkQuartic(t, x, p)
			}
		}
		if len(seen) != 4 {
			t.Errorf("by %v, only %v were answered", p, seen)
		}
	}
}

// TestQuarticHangsOnWhatIsLeft: x beyond p answers what it leaves by p, and p's turns change nothing.
func TestQuarticHangsOnWhatIsLeft(t *testing.T) {
	for _, p := range append(greatPrimes(), triedPrimes(100)[1:]...) {
		for _, x := range sample.Pairs(20) {
			want, wantFault := gauss.Quartic(x, p)
			for turns := range 4 {
				if got, f := gauss.Quartic(x, turned(p, turns)); got != want || f != wantFault {
					t.Fatalf("Quartic(%v, %v): %d, %v, want %d, %v", x, turned(p, turns), got, f, want, wantFault)
				}
			}
			_, left, _ := gauss.Div(x, p)
			if got, f := gauss.Quartic(left, p); got != want || f != wantFault {
				t.Fatalf("Quartic(%v, %v): %d, %v, want %d, %v as of %v", left, p, got, f, want, wantFault, x)
			}
		}
	}
}

func TestQuarticOfChosenNumbers(t *testing.T) {
	for _, c := range []struct {
		x, p api.Pair
		want int
	}{
		{pair(3, 0), pair(2, 1), 1},
		{pair(1, 0), pair(2, 1), 0},
		{pair(0, 1), pair(2, 1), 1},
		{pair(-1, 0), pair(2, 1), 2},
		{pair(0, -1), pair(2, 1), 3},
		{pair(0, 1), pair(3, 0), 2},
		{pair(1, 1), pair(3, 0), 3},
		{pair(1, 1), pair(-3, 0), 3},
		{pair(1, -1), pair(0, 3), 1},
		{pair(2, 0), pair(7, 0), 0},
		{pair(0, 1), pair(7, 0), 0},
	} {
		if got, f := gauss.Quartic(c.x, c.p); got != c.want || f != none {
			t.Errorf("Quartic(%v, %v): %d, %v, want %d", c.x, c.p, got, f, c.want)
		}
	}
}

// isPrimary tells whether p - 1 is a multiple of 2 + 2 i.
func isPrimary(p api.Pair) bool { return divides(pair(2, 2), pair(p.A-1, p.B)) }

// primaries answers of each prime with an odd norm the one of its turns whose difference from 1 is a multiple of 2 + 2 i.
func primaries(primes []api.Pair) []api.Pair {
	var list []api.Pair
	for _, p := range primes {
		for turns := range 4 {
			if x := turned(p, turns); isPrimary(x) {
				list = append(list, x)
			}
		}
	}
	return list
}

// TestQuarticsTurnAsGaussSays: what follows, of two primes that are not by a unit the same.
func TestQuarticsTurnAsGaussSays(t *testing.T) {
	primes := append(triedPrimes(900)[1:], greatPrimes()...)
	list := primaries(primes)
	slices.SortFunc(list, compare)
	list = slices.Compact(list)
	many := [2]int{}
	for _, p := range list {
		for _, q := range list {
			if p == q {
				continue
			}
			one, f1 := gauss.Quartic(p, q)
			other, f2 := gauss.Quartic(q, p)
			off := 0
			if norm(p)%8 == 5 && norm(q)%8 == 5 {
				off = 2
			}
			many[off/2]++
			if (one+off)%4 != other || f1 != none || f2 != none {
				t.Fatalf("of %v and %v: %d, %d, %v, %v", p, q, one, other, f1, f2)
			}
		}
	}
	if many[0] < 1000 || many[1] < 1000 {
		t.Errorf("only %v were tried", many)
	}
}

// TestFaultsOfQuartic: ErrRange first, then ErrKind at 1, and then ErrZero at 0.
func TestFaultsOfQuartic(t *testing.T) {
	checkFaults(t, "Quartic", func(x, p api.Pair) (bool, api.Fault) {
		k, f := gauss.Quartic(x, p)
		return k == 0, f
	}, func(x, p api.Pair) api.Fault {
		if !isPrime(p) || norm(p) == 2 {
			return faultOf(api.ErrKind, 1)
		}
		if divides(p, x) {
			return faultOf(api.ErrZero, 0)
		}
		return none
	})
}

// TestQuarticBarsWhatIsNoPrime: 0, units, even norms, products of each kind, and whole numbers that split.
func TestQuarticBarsWhatIsNoPrime(t *testing.T) {
	list := []api.Pair{
		zero, pair(1, 0), pair(1, 1), pair(2, 0), pair(3, 1), pair(5, 0), pair(13, 0), pair(9, 0), pair(21, 0), pair(3, 3), pair(3, 4), pair(6, 3), pair(4, 7),
		pair(most, 0), pair(most, most), pair(most, most-2), pair(499999993, 0), pair(22361*22349, 0), pair(99980001, 0), pair(19319, 2),
	}
	for _, x := range within(40) {
		if !isPrime(x) {
			list = append(list, x)
		}
	}
	primes := greatPrimes()
	for _, p := range primes {
		for _, q := range primes {
			if product, fits := longOf(p).times(longOf(q)).pair(); fits && isPair(product) {
				list = append(list, product)
			}
		}
	}
	for _, p := range list {
		if isPrime(p) && p != pair(1, 1) {
			t.Fatalf("%v is a prime", p)
		}
		for turns := range 4 {
			for _, x := range []api.Pair{zero, pair(1, 0), pair(3, 2), p, pair(most, -most)} {
				if k, f := gauss.Quartic(x, turned(p, turns)); k != 0 || f != faultOf(api.ErrKind, 1) {
					t.Errorf("Quartic(%v, %v): %d, %v, want ErrKind at 1", x, turned(p, turns), k, f)
				}
			}
		}
	}
}
