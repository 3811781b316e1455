package gauss_test

import (
	"cmp"
	"slices"
	"testing"

	"arithmetica/api"
	"arithmetica/gauss"
	"arithmetica/prime"
	"arithmetica/sample"
)

// chiefsWithin answers all chiefs with norms up to bound, in Factor's order.
func chiefsWithin(bound int) []api.Pair {
	var list []api.Pair
	for a := 1; a*a <= bound; a++ {
		for b := 0; a*a+b*b <= bound; b++ {
			list = append(list, pair(a, b))
		}
	}
	slices.SortFunc(list, compare)
	return list
}

func norm(x api.Pair) int { return x.A*x.A + x.B*x.B }

func compare(x, y api.Pair) int {
	return cmp.Or(cmp.Compare(norm(x), norm(y)), cmp.Compare(x.A, y.A), cmp.Compare(x.B, y.B))
}

// triedPrimes answers all primes that are chiefs, with norms up to bound, in Factor's order: what is no product of two others, neither of which is a unit.
func triedPrimes(bound int) []api.Pair {
	chiefs := chiefsWithin(bound)
	isProduct := map[api.Pair]bool{}
	for _, x := range chiefs[1:] {
		for _, y := range chiefs[1:] {
			product := pair(x.A*y.A-x.B*y.B, x.A*y.B+x.B*y.A)
			if norm(product) > bound {
				break
			}
			for turns := range 4 {
				isProduct[turned(product, turns)] = true
			}
		}
	}
	return slices.DeleteFunc(chiefs[1:], func(x api.Pair) bool { return isProduct[x] })
}

// triedFactor divides x by all of primes, as often as they go.
func triedFactor(x api.Pair, primes []api.Pair) (turns int, list []api.PairPower) {
	for _, p := range primes {
		times := 0
		for divides(p, x) {
			x, _ = longOf(x).rounded(longOf(p)).pair()
			times++
		}
		if times > 0 {
			list = append(list, api.PairPower{Prime: p, Times: times})
		}
	}
	return slices.Index([]api.Pair{pair(1, 0), pair(0, 1), pair(-1, 0), pair(0, -1)}, x), list
}

// TestFactorByTryingAllPrimes: P6.2, of small numbers.
func TestFactorByTryingAllPrimes(t *testing.T) {
	primes := triedPrimes(2 * 25 * 25)
	for _, x := range within(25) {
		if x == zero {
			continue
		}
		wantTurns, want := triedFactor(x, primes)
		if turns, l, f := gauss.Factor(x); turns != wantTurns || !slices.Equal(l, want) || f != none {
			t.Errorf("Factor(%v): %d, %v, %v, want %d, %v", x, turns, l, f, wantTurns, want)
		}
	}
}

// isPrime tells of any number whether it is a prime, by what Gauss found: its norm is a prime, or it is a unit times a prime that leaves 3 by 4.
func isPrime(x api.Pair) bool {
	if longOf(x).norm().ProbablyPrime(0) { // which is certain below 2^64
		return true
	}
	size := max(x.A, -x.A, x.B, -x.B)
	return (x.A == 0 || x.B == 0) && size%4 == 3 && large(size).ProbablyPrime(0)
}

// checkFactor holds P6.2 against long numbers: the only answer is one of turns from 0 to 3, and of primes that are chiefs, in their order, which make x.
func checkFactor(t *testing.T, x api.Pair) {
	t.Helper()
	turns, l, f := gauss.Factor(x)
	if turns < 0 || turns > 3 || f != none {
		t.Fatalf("Factor(%v): %d, %v", x, turns, f)
	}
	product := longOf(turned(pair(1, 0), turns))
	for i, p := range l {
		if !isChief(p.Prime) || !isPrime(p.Prime) || p.Times < 1 || i > 0 && compare(l[i-1].Prime, p.Prime) >= 0 {
			t.Fatalf("Factor(%v): %v", x, l)
		}
		for range p.Times {
			product = product.times(longOf(p.Prime))
		}
	}
	if !product.is(longOf(x)) {
		t.Fatalf("Factor(%v): %d, %v make %v", x, turns, l, product)
	}
}

func TestFactorOfGreatNumbers(t *testing.T) {
	for _, x := range sample.Pairs(2000) {
		if x != zero {
			checkFactor(t, x)
		}
	}
}

// raised answers x to the power of times, as long as it is a pair.
func raised(x api.Pair, times int) (api.Pair, bool) {
	power := longOf(pair(1, 0))
	for range times {
		power = power.times(longOf(x))
	}
	answer, fits := power.pair()
	return answer, fits && isPair(answer)
}

// TestFactorOfPowers: all powers of a small prime that are pairs, turned each way, and some other primes beside them.
func TestFactorOfPowers(t *testing.T) {
	for _, p := range triedPrimes(400) {
		for times := 1; ; times++ {
			power, fits := raised(p, times)
			if !fits {
				break
			}
			want := []api.PairPower{{Prime: p, Times: times}}
			for turns := range 4 {
				x := turned(power, turns)
				if got, l, f := gauss.Factor(x); got != turns || !slices.Equal(l, want) || f != none {
					t.Fatalf("Factor(%v): %d, %v, %v, want %d, %v", x, got, l, f, turns, want)
				}
				if product, fits := longOf(x).times(longOf(pair(6, 9))).pair(); fits && isPair(product) {
					checkFactor(t, product)
				}
			}
		}
	}
}

// greatPrimes are primes with great norms: norms that are primes, near the bound, at each side of the square root of the greatest norm, and whole numbers that are primes.
func greatPrimes() []api.Pair {
	var list []api.Pair
	for a := most; len(list) < 10; a-- {
		for _, x := range []api.Pair{pair(a, most), pair(a, a-1), pair(1, a), pair(a, 2), pair(-a, a/3), pair(a/7, -a/2)} {
			if isPrime(x) {
				list = append(list, x)
			}
		}
	}
	for a := 18708; a < 19100; a++ { // 18708^2 + 18900^2 is about MaxPart times the square root of 2
		if x := pair(a, 18900); isPrime(x) {
			list = append(list, x)
		}
	}
	for _, below := range []int{46340, 1000000, 31622776, most/2 - 100, most - 200} {
		p, _ := prime.Next(below)
		for p%4 != 3 {
			p, _ = prime.Next(p)
		}
		list = append(list, pair(p, 0), pair(0, -p))
	}
	return list
}

// TestFactorOfPrimes: a prime is itself, whatever unit it is turned by.
func TestFactorOfPrimes(t *testing.T) {
	for _, p := range append(greatPrimes(), triedPrimes(2000)...) {
		if !isPrime(p) || !isPair(p) {
			t.Fatalf("%v is no prime", p)
		}
		chief := p
		for !isChief(chief) {
			chief = turned(chief, 1)
		}
		want := []api.PairPower{{Prime: chief, Times: 1}}
		for turns := range 4 {
			if got, l, f := gauss.Factor(turned(chief, turns)); got != turns || !slices.Equal(l, want) || f != none {
				t.Errorf("Factor(%v): %d, %v, %v, want %d, %v", turned(chief, turns), got, l, f, turns, want)
			}
		}
	}
}

// TestFactorOfProducts: primes of one norm, of norms in another order than their parts, and great ones.
func TestFactorOfProducts(t *testing.T) {
	primes := append(greatPrimes(), triedPrimes(120)...)
	for _, x := range primes {
		for _, y := range primes {
			for _, z := range []api.Pair{pair(1, 0), pair(x.A, -x.B), pair(-1, 1), pair(0, 3), pair(5, 0)} {
				if product, fits := longOf(x).times(longOf(y)).times(longOf(z)).pair(); fits && isPair(product) {
					checkFactor(t, product)
				}
			}
		}
	}
}

func power(a, b, times int) api.PairPower { return api.PairPower{Prime: pair(a, b), Times: times} }

func TestFactorOfChosenNumbers(t *testing.T) {
	for _, c := range []struct {
		x     api.Pair
		turns int
		want  []api.PairPower
	}{
		{pair(5, 0), 3, []api.PairPower{power(1, 2, 1), power(2, 1, 1)}},
		{pair(1, 0), 0, nil},
		{pair(0, 1), 1, nil},
		{pair(-1, 0), 2, nil},
		{pair(0, -1), 3, nil},
		{pair(1, 1), 0, []api.PairPower{power(1, 1, 1)}},
		{pair(1, -1), 3, []api.PairPower{power(1, 1, 1)}},
		{pair(2, 0), 3, []api.PairPower{power(1, 1, 2)}},
		{pair(-3, 0), 2, []api.PairPower{power(3, 0, 1)}},
		{pair(0, -9), 3, []api.PairPower{power(3, 0, 2)}},
		{pair(3, 4), 0, []api.PairPower{power(2, 1, 2)}},
		{pair(65, 0), 2, []api.PairPower{power(1, 2, 1), power(2, 1, 1), power(2, 3, 1), power(3, 2, 1)}},
		{pair(39, 0), 3, []api.PairPower{power(3, 0, 1), power(2, 3, 1), power(3, 2, 1)}},
		{pair(77, 0), 0, []api.PairPower{power(7, 0, 1), power(11, 0, 1)}},
		{pair(1<<28, 1<<28), 0, []api.PairPower{power(1, 1, 57)}},
		{pair(387420489, 0), 0, []api.PairPower{power(3, 0, 18)}},
		{pair(most, 0), 3, []api.PairPower{power(1, 1, 16), power(1, 2, 9), power(2, 1, 9)}},
		{pair(-most, most), 0, []api.PairPower{power(1, 1, 17), power(1, 2, 9), power(2, 1, 9)}},
	} {
		if turns, l, f := gauss.Factor(c.x); turns != c.turns || !slices.Equal(l, c.want) || f != none {
			t.Errorf("Factor(%v): %d, %v, %v, want %d, %v", c.x, turns, l, f, c.turns, c.want)
		}
	}
}

// TestFactorsAreNewMemory: what a caller does with an answer is not seen in the next one.
func TestFactorsAreNewMemory(t *testing.T) {
	for _, x := range []api.Pair{pair(5, 0), pair(1, 1), pair(most, most), pair(-77, 0)} {
		_, first, _ := gauss.Factor(x)
		kept := slices.Clone(first)
		clear(first[:cap(first)])
		if _, second, f := gauss.Factor(x); !slices.Equal(second, kept) || f != none {
			t.Errorf("Factor(%v): %v, %v after the first answer was changed", x, second, f)
		}
	}
}
