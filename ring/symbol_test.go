package ring_test

import (
	"math/big"
	"slices"
	"testing"

	"arithmetica/api"
	"arithmetica/sample"
)

// symbolPrimes answers those of primes by which there is a symbol.
func (k kind) symbolPrimes(primes []api.Pair) []api.Pair {
	return slices.DeleteFunc(primes, func(p api.Pair) bool { return k.norm(p) == k.barred })
}

// checkSymbol holds P6.3 and P7.3 against long numbers, for a prime p by which there is a symbol, and answers what was answered.
func checkSymbol(t *testing.T, k kind, x, p api.Pair) int {
	t.Helper()
	got, f := k.Symbol(x, p)
	if k.divides(p, x) {
		if got != 0 || f != faultOf(api.ErrZero, 0) {
			t.Fatalf("of %v by %v: %d, %v, want ErrZero at 0", x, p, got, f)
		}
		return got
	}
	by := longOf(p)
	n := new(big.Int).Div(k.longNorm(by), large(len(k.powers))) // which rounds the 1 away that is to be taken from the norm
	if got < 0 || got >= len(k.powers) || f != none || !k.longDivides(by, k.power(longOf(x), n, by).minus(longOf(k.powers[got]))) {
		t.Fatalf("of %v by %v: %d, %v", x, p, got, f)
	}
	return got
}

// triedSymbol multiplies so often as the power says, and tries which power of s is left.
func (k kind) triedSymbol(x, p api.Pair) int {
	by, power := longOf(p), longOf(one)
	for range (k.norm(p) - 1) / len(k.powers) {
		power = k.left(k.times(power, longOf(x)), by)
	}
	return slices.IndexFunc(k.powers, func(s api.Pair) bool { return k.longDivides(by, power.minus(longOf(s))) })
}

// TestSymbolByTryingAll: P6.3 and P7.3, of small numbers, by each of those that differ from a prime by a unit.
func TestSymbolByTryingAll(t *testing.T) {
	each(t, func(t *testing.T, k kind) {
		for _, chief := range k.symbolPrimes(k.triedPrimes(110)) {
			for _, p := range k.turns(chief) {
				seen := map[int]bool{}
				for _, x := range within(4) {
					want, wantFault := 0, none
					if k.divides(p, x) {
						wantFault = faultOf(api.ErrZero, 0)
					} else {
						want = k.triedSymbol(x, p)
						seen[want] = true
					}
					if got, f := k.Symbol(x, p); got != want || f != wantFault {
						t.Fatalf("of %v by %v: %d, %v, want %d, %v", x, p, got, f, want, wantFault)
					}
				}
				if len(seen) != len(k.powers) {
					t.Errorf("by %v, only %v were answered", p, seen)
				}
			}
		}
	})
}

// TestSymbolOfGreatNumbers: great primes and small ones, great x and small ones, and x that p divides.
func TestSymbolOfGreatNumbers(t *testing.T) {
	each(t, func(t *testing.T, k kind) {
		numbers := sample.Pairs(40)
		for _, p := range k.symbolPrimes(append(k.greatPrimes(), k.triedPrimes(500)...)) {
			seen := map[int]bool{}
			for _, x := range numbers {
				seen[checkSymbol(t, k, x, p)] = true
			}
			for _, y := range []api.Pair{one, pair(0, -1), pair(2, -3), pair(0, 20)} {
				if x, fits := k.fits(p, y); fits {
					checkSymbol(t, k, x, p)
				}
			}
			if len(seen) != len(k.powers) {
				t.Errorf("by %v, only %v were answered", p, seen)
			}
		}
	})
}

// TestSymbolHangsOnWhatIsLeft: x beyond p answers what it leaves by p, and p's turns change nothing.
func TestSymbolHangsOnWhatIsLeft(t *testing.T) {
	each(t, func(t *testing.T, k kind) {
		for _, p := range k.symbolPrimes(append(k.greatPrimes(), k.triedPrimes(100)...)) {
			for _, x := range sample.Pairs(20) {
				want, wantFault := k.Symbol(x, p)
				for _, turned := range k.turns(p) {
					if got, f := k.Symbol(x, turned); got != want || f != wantFault {
						t.Fatalf("of %v by %v: %d, %v, want %d, %v", x, turned, got, f, want, wantFault)
					}
				}
				_, left, _ := k.Div(x, p)
				if got, f := k.Symbol(left, p); isPair(left) && (got != want || f != wantFault) {
					t.Fatalf("of %v by %v: %d, %v, want %d, %v as of %v", left, p, got, f, want, wantFault, x)
				}
			}
		}
	})
}

// primaries answers of each prime the one of its turns of which the law speaks, if that may be handed in.
func (k kind) primaries(primes []api.Pair) []api.Pair {
	var list []api.Pair
	for _, p := range primes {
		list = append(list, k.turns(p)...)
	}
	list = slices.DeleteFunc(list, func(p api.Pair) bool { return !k.isPrimary(p) })
	slices.SortFunc(list, k.compare)
	return slices.Compact(list)
}

// TestSymbolsTurnAsTheLawSays: what follows, of two primes that are not by a unit the same.
func TestSymbolsTurnAsTheLawSays(t *testing.T) {
	each(t, func(t *testing.T, k kind) {
		list := k.primaries(k.symbolPrimes(append(k.triedPrimes(900), k.greatPrimes()...)))
		if len(list) < 150 {
			t.Errorf("only %d primes are tried", len(list))
		}
		for _, p := range list {
			for _, q := range list {
				if p == q {
					continue
				}
				one, f1 := k.Symbol(p, q)
				other, f2 := k.Symbol(q, p)
				if (one+k.apart(k.norm(p), k.norm(q)))%len(k.powers) != other || f1 != none || f2 != none {
					t.Fatalf("of %v and %v: %d, %d, %v, %v", p, q, one, other, f1, f2)
				}
			}
		}
	})
}

// barredPrimes answers numbers by which there is no symbol: 0, units, the one norm that is barred, products of each kind, and whole numbers that split.
func (k kind) barredPrimes() []api.Pair {
	list := append(within(40),
		pair(most, 0), pair(most, most), pair(most, most-2), pair(most, -most), pair(499999993, 0), pair(499999909, 0), pair(22361*22349, 0), pair(99980001, 0), pair(19319, 2))
	list = slices.DeleteFunc(list, func(x api.Pair) bool { return k.isPrime(x) && k.norm(x) != k.barred })
	primes := k.greatPrimes()
	for _, p := range primes {
		for _, q := range primes {
			if product, fits := k.fits(p, q); fits {
				list = append(list, product)
			}
		}
	}
	return list
}

func TestSymbolBarsWhatIsNoPrime(t *testing.T) {
	each(t, func(t *testing.T, k kind) {
		for _, number := range k.barredPrimes() {
			for _, p := range k.turns(number) {
				for _, x := range []api.Pair{zero, one, pair(3, 2), p, pair(most, -most)} {
					if got, f := k.Symbol(x, p); got != 0 || f != faultOf(api.ErrKind, 1) {
						t.Errorf("of %v by %v: %d, %v, want ErrKind at 1", x, p, got, f)
					}
				}
			}
		}
	})
}
