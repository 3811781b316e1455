package square_test

import (
	"slices"
	"testing"

	"arithmetica/api"
	"arithmetica/prime"
	"arithmetica/sample"
	"arithmetica/square"
)

// triedPairs tries all b.
func triedPairs(n int) [][2]int {
	var list [][2]int
	for b := 0; 2*b*b <= n; b++ {
		if a := squareRoot(n - b*b); a*a+b*b == n {
			list = append(list, [2]int{a, b})
		}
	}
	return list
}

func checkPairs(t *testing.T, n int, want [][2]int) {
	t.Helper()
	if list, f := square.Two(n); !slices.Equal(list, want) || f != none {
		t.Fatalf("Two(%d): %v, %v, want %v", n, list, f, want)
	}
}

// wantPairs answers how many there must be by n's primes: each that leaves 1, left by 4, brings one choice more than it is often there, and half of all choices are mirrors of the others.
func wantPairs(powers []api.Power) int {
	choices := 1
	for _, p := range powers {
		if p.Prime%4 == 3 && p.Times%2 == 1 {
			return 0
		}
		if p.Prime%4 == 1 {
			choices *= p.Times + 1
		}
	}
	return choices/2 + choices%2
}

// checkTwo holds Two against how many there are: so many that rise by b and whose squares are n in sum are all.
func checkTwo(t *testing.T, n, many int) {
	t.Helper()
	list, f := square.Two(n)
	if many > 1000 {
		if len(list) != 0 || f != faultOf(api.ErrMuch, 0) {
			t.Fatalf("Two(%d): %d pairs, %v, want ErrMuch at 0, as there are %d", n, len(list), f, many)
		}
		return
	}
	if len(list) != many || f != none {
		t.Fatalf("Two(%d): %d pairs, %v, want %d", n, len(list), f, many)
	}
	last := -1
	for _, pair := range list {
		a, b := pair[0], pair[1]
		if b <= last || a < b || !squaresAre(pair[:], n) {
			t.Fatalf("Two(%d): %d, %d behind b = %d", n, a, b, last)
		}
		last = b
	}
}

// checkTwoByFactors holds Two against what n's primes tell, for n above 0.
func checkTwoByFactors(t *testing.T, n int) int {
	t.Helper()
	powers, f := prime.Factor(n)
	if f != none {
		t.Fatalf("Factor(%d): %v", n, f)
	}
	many := wantPairs(powers)
	checkTwo(t, n, many)
	return many
}

// TestTwoByTryingAll: P11.1 with small n.
func TestTwoByTryingAll(t *testing.T) {
	for n := range 20001 {
		checkPairs(t, n, triedPairs(n))
	}
}

// TestTwoByTryingAllOfGreaterNumbers: P11.1 with some n of which all b can just be tried.
func TestTwoByTryingAllOfGreaterNumbers(t *testing.T) {
	for _, n := range []int{
		999999999, 1000000000, 1000000001, 801125 * 1105, 1185665 * 841, 2 * 23981 * 23981, 31607 * 31607, 1 << 34, 1<<35 + 1, 48612265 * 5, 48612265 * 50, 48612265 * 49,
		100000000000, 99999999977, 100000000003, 99999999999, 305000 * 305000, 2 * 220000 * 220000,
	} {
		checkPairs(t, n, triedPairs(n))
	}
}

func TestTwoOfChosenNumbers(t *testing.T) {
	for _, c := range []struct {
		n    int
		want [][2]int
	}{
		{0, [][2]int{{0, 0}}},
		{1, [][2]int{{1, 0}}},
		{2, [][2]int{{1, 1}}},
		{3, nil},
		{4, [][2]int{{2, 0}}},
		{5, [][2]int{{2, 1}}},
		{7, nil},
		{8, [][2]int{{2, 2}}},
		{9, [][2]int{{3, 0}}},
		{18, [][2]int{{3, 3}}},
		{21, nil},
		{25, [][2]int{{5, 0}, {4, 3}}},
		{50, [][2]int{{7, 1}, {5, 5}}},
		{65, [][2]int{{8, 1}, {7, 4}}},
		{325, [][2]int{{18, 1}, {17, 6}, {15, 10}}},
		{1105, [][2]int{{33, 4}, {32, 9}, {31, 12}, {24, 23}}},
		{625, [][2]int{{25, 0}, {24, 7}, {20, 15}}},
		{1250, [][2]int{{35, 5}, {31, 17}, {25, 25}}},
		{1 << 58, [][2]int{{1 << 29, 0}}},
		{1 << 59, [][2]int{{1 << 29, 1 << 29}}},
		{raised(3, 36), [][2]int{{raised(3, 18), 0}}},
		{2 * raised(3, 36), [][2]int{{raised(3, 18), raised(3, 18)}}},
		{raised(3, 37), nil},
		{5 * raised(3, 34), [][2]int{{2 * raised(3, 17), raised(3, 17)}}},
		{999999937 * 999999937, [][2]int{{999999937, 0}, {840545855, 541740288}}},
		{999999929 * 999999937, [][2]int{{999911597, 13291508}, {847672147, 530520308}}},
		{2 * 499999993 * 499999993, [][2]int{{655864447, 264276017}, {499999993, 499999993}}},
		{999999999 * 999999999, [][2]int{{999999999, 0}, {945945945, 324324324}}},
		{greatest, [][2]int{{965478167, 260483990}}},
		{top - 1, nil},
		{top, [][2]int{
			{1000000000, 0}, {997120000, 75840000}, {978470400, 206387200}, {960000000, 280000000}, {936000000, 352000000},
			{906608640, 421972480}, {881543168, 472103424}, {843200000, 537600000}, {800000000, 600000000}, {752192000, 658944000},
		}},
	} {
		checkPairs(t, c.n, c.want)
	}
}

// TestTwoOfNumbersOfAllSorts: P11.1 at the edges, held against the primes of n.
func TestTwoOfNumbersOfAllSorts(t *testing.T) {
	checkPairs(t, 0, [][2]int{{0, 0}})
	found := 0
	for _, n := range append(chosen(), sample.Positive(3000)...) {
		if n > 0 && checkTwoByFactors(t, n) > 0 {
			found++
		}
	}
	if found < 1000 {
		t.Errorf("only %d are sums of two squares", found)
	}
}

func TestTwoNextToMaxNum(t *testing.T) {
	for less := range 2001 {
		checkTwoByFactors(t, top-less)
	}
}

// TestTwoFindsKnownOnes: P11.1 with n that are made of squares, of all lengths.
func TestTwoFindsKnownOnes(t *testing.T) {
	numbers := sample.Spread(8000)
	for i := 1; i < len(numbers); i++ {
		a, b := max(numbers[i-1], -numbers[i-1])%707106782, max(numbers[i], -numbers[i])%707106782
		a, b = max(a, b), min(a, b)
		if b == 0 {
			continue
		}
		n := a*a + b*b
		checkTwoByFactors(t, n)
		if list, _ := square.Two(n); !slices.Contains(list, [2]int{a, b}) {
			t.Fatalf("Two(%d): %v has no %d, %d", n, list, a, b)
		}
	}
}

// TestTwoOfPrimes: a prime that leaves 1, left by 4, is a sum of two squares in just one way (Fermat), and one that leaves 3 is none.
func TestTwoOfPrimes(t *testing.T) {
	var primes []int
	for n := range 20000 {
		if knownPrime(n) {
			primes = append(primes, n)
		}
	}
	for _, start := range append(sample.Positive(500), 1000000, 1000000000, 1<<31-2, 1<<32, top/10, top-20000) {
		for range 4 {
			next, f := prime.Next(start)
			if f != none {
				break
			}
			primes = append(primes, next)
			start = next
		}
	}
	rests := map[int]int{}
	for _, p := range primes {
		want := 1
		if p%4 == 3 {
			want = 0
		}
		checkTwo(t, p, want)
		rests[p%4]++
	}
	if rests[1] < 1500 || rests[3] < 1500 {
		t.Errorf("of the primes leave so many 1 and 3: %v", rests)
	}
}

// TestTwoOfSquaresOfPrimes: a, 0 alone, or one pair more; of twice the square as many.
func TestTwoOfSquaresOfPrimes(t *testing.T) {
	for _, start := range []int{2, 100, 40000, 30000000, 707106000, 999999000} {
		p := start
		for range 30 {
			p, _ = prime.Next(p)
			if p > 1000000000 {
				break
			}
			want := 2
			if p%4 == 3 {
				want = 1
			}
			checkTwo(t, p*p, want)
			if list, _ := square.Two(p * p); list[0] != [2]int{p, 0} {
				t.Errorf("Two(%d^2): %v", p, list)
			}
			if p > 707106781 {
				continue
			}
			checkTwo(t, 2*p*p, want)
			if list, _ := square.Two(2 * p * p); list[want-1] != [2]int{p, p} {
				t.Errorf("Two(2 * %d^2): %v", p, list)
			}
		}
	}
}

// richest answers the products of powers of the first primes that leave 1, left by 4, up to MaxNum, in which no prime is more often than the one ahead of it, with how many pairs they have.
func richest() map[int]int {
	primes := []int{5, 13, 17, 29, 37, 41, 53, 61, 73, 89, 97, 101}
	answer := map[int]int{}
	var climb func(place, n, choices, most int)
	climb = func(place, n, choices, most int) {
		answer[n] = choices/2 + choices%2
		if place == len(primes) {
			return
		}
		for times := 1; times <= most && n <= top/primes[place]; times++ {
			n *= primes[place]
			climb(place+1, n, choices*(times+1), times)
		}
	}
	climb(0, 1, 1, 60)
	return answer
}

// TestTwoOfProductsOfManyPrimes: P11.1 where there are many, up to MaxList and beyond. No n has just MaxList, the nearest have 972 and 1008: whatever n has so many, one of the richest up to n has as many.
func TestTwoOfProductsOfManyPrimes(t *testing.T) {
	within, above := 0, 1<<62
	for n, many := range richest() {
		if many > 1000 {
			above = min(above, many)
		} else {
			within = max(within, many)
		}
		for _, other := range []int{1, 2, 4, 9, 49, 18, 1 << 9, 1 << 10} {
			if n <= top/other && (many > 400 || other == 1) {
				checkTwo(t, n*other, many)
			}
		}
		for _, other := range []int{3, 7, 6, 27, 12, 11 * 9} {
			if n <= top/other && many > 400 {
				checkTwo(t, n*other, 0)
			}
		}
	}
	if within != 972 || above != 1008 {
		t.Errorf("the nearest to MaxList are %d and %d", within, above)
	}
}

// TestTwoTurnsAtMaxList: the numbers of pairs that come next to MaxList, and above it.
func TestTwoTurnsAtMaxList(t *testing.T) {
	const eleven = 5 * 13 * 17 * 29 * 37 * 41 * 53 * 61 * 73 * 89 * 97
	const five = 5 * 13 * 17 * 29 * 37
	for _, c := range []struct{ n, many int }{
		{eleven / 97, 512},
		{eleven, 1024},
		{2 * eleven, 1024},
		{9 * eleven, 1024},
		{5 * eleven, 1536},
		{3 * eleven, 0}, // though there are many divisors, there are no squares
		{7 * eleven, 0},
		{6 * eleven, 0},
		{five * five * 41 * 53 * 61, 972},
		{2 * five * five * 41 * 53 * 61, 972},
		{4 * five * five * 41 * 53 * 61, 972},
	} {
		checkTwo(t, c.n, c.many)
		checkTwoByFactors(t, c.n)
	}
}

// TestTwoTellsWhatIsOutOfRange: ErrRange at 0, and nothing beside it.
func TestTwoTellsWhatIsOutOfRange(t *testing.T) {
	for _, n := range append(beyond(), sample.Edges()...) {
		want := wantRange(n, top)
		list, f := square.Two(n)
		if f != want || want != none && len(list) != 0 {
			t.Errorf("Two(%d): %v, %v, want %v", n, list, f, want)
		}
	}
}

// TestPairsAreNewMemory: a list that was answered may be written over, behind its length too.
func TestPairsAreNewMemory(t *testing.T) {
	for n, want := range map[int][][2]int{0: {{0, 0}}, 25: {{5, 0}, {4, 3}}, 1105: {{33, 4}, {32, 9}, {31, 12}, {24, 23}}} {
		other, _ := square.Two(n)
		for range 3 {
			list, _ := square.Two(n)
			if !slices.Equal(list, want) {
				t.Fatalf("Two(%d): %v, want %v", n, list, want)
			}
			clear(list[:cap(list)])
			list[0] = [2]int{-1, -1}
		}
		if !slices.Equal(other, want) {
			t.Errorf("Two(%d): what was answered first is now %v", n, other)
		}
	}
}

// TestTwoAnswersTheSameAgain: the order in which a map is gone through is not to be seen.
func TestTwoAnswersTheSameAgain(t *testing.T) {
	const n = 48612265 * 48612265
	want, f := square.Two(n)
	if f != none || len(want) != 365 {
		t.Fatalf("Two(%d): %d pairs, %v", n, len(want), f)
	}
	for range 20 {
		checkPairs(t, n, want)
	}
}
