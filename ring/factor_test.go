package ring_test

import (
	"cmp"
	"slices"
	"testing"

	"arithmetica/api"
	"arithmetica/prime"
	"arithmetica/sample"
)

// compare tells which of two stands first in Factor's list.
func (k kind) compare(x, y api.Pair) int {
	return cmp.Or(cmp.Compare(k.norm(x), k.norm(y)), cmp.Compare(x.A, y.A), cmp.Compare(x.B, y.B))
}

// chiefsWithin answers all chiefs with norms up to bound, in Factor's order.
func (k kind) chiefsWithin(bound int) []api.Pair {
	side := 1
	for 3*side*side <= 4*bound { // no norm is below 3/4 of the square of a part
		side++
	}
	list := slices.DeleteFunc(within(side), func(x api.Pair) bool { return !k.isChief(x) || k.norm(x) > bound })
	slices.SortFunc(list, k.compare)
	return list
}

// triedPrimes answers all primes that are chiefs, with norms up to bound, in Factor's order: what is no product of two others, neither of which is a unit.
func (k kind) triedPrimes(bound int) []api.Pair {
	chiefs := k.chiefsWithin(bound)[1:] // without 1
	isProduct := map[api.Pair]bool{}
	for _, x := range chiefs {
		for _, y := range chiefs {
			if k.norm(x)*k.norm(y) > bound {
				break
			}
			isProduct[k.chief(k.product(x, y))] = true
		}
	}
	return slices.DeleteFunc(chiefs, func(x api.Pair) bool { return isProduct[x] })
}

// triedFactor divides x by all of primes, as often as they go.
func (k kind) triedFactor(x api.Pair, primes []api.Pair) (turns int, list []api.PairPower) {
	for _, p := range primes {
		times := 0
		for k.norm(p) <= k.norm(x) && k.divides(p, x) {
			x, _ = k.rounded(longOf(x), longOf(p)).pair()
			times++
		}
		if times > 0 {
			list = append(list, api.PairPower{Prime: p, Times: times})
		}
	}
	return slices.Index(k.units, x), list
}

// TestFactorByTryingAllPrimes: P6.2 and P7.2, of small numbers.
func TestFactorByTryingAllPrimes(t *testing.T) {
	each(t, func(t *testing.T, k kind) {
		primes := k.triedPrimes(3 * 25 * 25)
		for _, x := range within(25) {
			if x == zero {
				continue
			}
			wantTurns, want := k.triedFactor(x, primes)
			if turns, l, f := k.Factor(x); turns != wantTurns || !slices.Equal(l, want) || f != none {
				t.Errorf("Factor(%v): %d, %v, %v, want %d, %v", x, turns, l, f, wantTurns, want)
			}
		}
	})
}

// isPrime tells of any number whether it is a prime, by what is known of them: its norm is a prime, or it is a unit times a prime that leaves 3 by 4, of Gauss's numbers, and 2 by 3, of Eisenstein's.
func (k kind) isPrime(x api.Pair) bool {
	if large(k.norm(x)).ProbablyPrime(0) { // which is certain below 2^64
		return true
	}
	whole, order := k.chief(x), len(k.powers)
	return whole.B == 0 && whole.A%order == order-1 && large(whole.A).ProbablyPrime(0)
}

// checkFactor holds P6.2 and P7.2 against long numbers: the only answer is one of turns below the number of units, and of primes that are chiefs, in their order, which make x.
func checkFactor(t *testing.T, k kind, x api.Pair) {
	t.Helper()
	turns, l, f := k.Factor(x)
	if turns < 0 || turns >= len(k.units) || f != none {
		t.Fatalf("Factor(%v): %d, %v", x, turns, f)
	}
	product := longOf(k.units[turns])
	for i, p := range l {
		if !k.isChief(p.Prime) || !k.isPrime(p.Prime) || p.Times < 1 || i > 0 && k.compare(l[i-1].Prime, p.Prime) >= 0 {
			t.Fatalf("Factor(%v): %v", x, l)
		}
		for range p.Times {
			product = k.times(product, longOf(p.Prime))
		}
	}
	if !product.is(longOf(x)) {
		t.Fatalf("Factor(%v): %d, %v make %v", x, turns, l, product)
	}
}

func TestFactorOfGreatNumbers(t *testing.T) {
	each(t, func(t *testing.T, k kind) {
		for _, x := range sample.Pairs(2000) {
			if x != zero {
				checkFactor(t, k, x)
			}
		}
	})
}

// checkTurns holds what Factor says of x times each unit, as long as that may be handed in, against the only answer, where x is all of want.
func checkTurns(t *testing.T, k kind, x api.Pair, want []api.PairPower) {
	t.Helper()
	for turns := range k.units {
		turned := k.turned(x, turns)
		if !isPair(turned) {
			continue
		}
		if got, l, f := k.Factor(turned); got != turns || !slices.Equal(l, want) || f != none {
			t.Fatalf("Factor(%v): %d, %v, %v, want %d, %v", turned, got, l, f, turns, want)
		}
	}
}

// TestFactorOfPowers: all powers of a small prime that are pairs, turned each way.
func TestFactorOfPowers(t *testing.T) {
	each(t, func(t *testing.T, k kind) {
		for _, p := range k.triedPrimes(400) {
			power, fits := p, true
			for times := 1; fits; times++ {
				checkTurns(t, k, power, []api.PairPower{{Prime: p, Times: times}})
				if x, fits := k.fits(power, pair(6, 9)); fits {
					checkFactor(t, k, x)
				}
				power, fits = k.fits(power, p)
			}
		}
	})
}

// greatPrimes are primes with great norms, not all of them chiefs: norms that are primes, near the bound, or near the square root of the greatest norm, and whole numbers that are primes.
func (k kind) greatPrimes() []api.Pair {
	var list []api.Pair
	keep := func(more ...api.Pair) {
		list = append(list, slices.DeleteFunc(more, func(x api.Pair) bool { return !k.isPrime(x) })...)
	}
	for a := most; len(list) < 12; a-- {
		keep(pair(a, most), pair(-a, most), pair(a, a-1), pair(1, a), pair(a, 2), pair(-a, a/3), pair(a/7, -a/2))
	}
	for off := range 200 {
		// Two of Gauss's primes of the first row, or two of Eisenstein's of the other, make a product with both parts near the bound.
		keep(pair(24540-off, 10130), pair(23980-off, -8663))
	}
	for _, n := range []int{46340, 1000000, 31622776, most/2 - 100, most - 200} {
		p := k.nextWhole(n)
		keep(pair(p, 0), pair(0, -p), k.turned(pair(p, 0), 1))
	}
	return list
}

// nextWhole answers the least whole number above n that is a prime here.
func (k kind) nextWhole(n int) int {
	for {
		n, _ = prime.Next(n)
		if k.isPrime(pair(n, 0)) {
			return n
		}
	}
}

// TestFactorOfPrimes: a prime is itself, whatever unit it is turned by.
func TestFactorOfPrimes(t *testing.T) {
	each(t, func(t *testing.T, k kind) {
		for _, p := range append(k.greatPrimes(), k.triedPrimes(2000)...) {
			checkTurns(t, k, k.chief(p), []api.PairPower{{Prime: k.chief(p), Times: 1}})
		}
	})
}

// TestFactorOfProducts: primes of one norm, of norms in another order than their parts, and great ones.
func TestFactorOfProducts(t *testing.T) {
	each(t, func(t *testing.T, k kind) {
		primes := append(k.greatPrimes(), k.triedPrimes(120)...)
		for _, x := range primes {
			mirrored, _ := k.mirrored(longOf(x)).pair()
			for _, y := range primes {
				both, fits := k.fits(x, y)
				if !fits {
					continue
				}
				for _, z := range []api.Pair{one, mirrored, pair(-1, 1), pair(0, 3), pair(5, 0)} {
					if product, fits := k.fits(both, z); fits {
						checkFactor(t, k, product)
					}
				}
			}
		}
	})
}

// TestFactorsAreNewMemory: what a caller does with an answer is not seen in the next one.
func TestFactorsAreNewMemory(t *testing.T) {
	each(t, func(t *testing.T, k kind) {
		for _, x := range []api.Pair{pair(5, 0), pair(7, 0), pair(1, 1), pair(2, 1), pair(most, most), pair(-77, 0)} {
			_, first, _ := k.Factor(x)
			kept := slices.Clone(first)
			clear(first[:cap(first)])
			if _, second, f := k.Factor(x); !slices.Equal(second, kept) || f != none {
				t.Errorf("Factor(%v): %v, %v after the first answer was changed", x, second, f)
			}
		}
	})
}
