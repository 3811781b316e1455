package hang_test

import (
	"math"
	"math/big"
	"slices"
	"testing"

	"arithmetica/api"
	"arithmetica/hang"
	"arithmetica/prime"
	"arithmetica/sample"
)

const (
	top      = api.MaxNum
	greatest = 999999999999999989 // the greatest prime up to MaxNum
	richest  = 897612484786617600 // has more divisors (103680) than any other number up to MaxNum
)

var none = api.Fault{}

func faultOf(code, at int) api.Fault { return api.Fault{Code: code, At: at} }

func large(n int) *big.Int { return big.NewInt(int64(n)) }

// raised answers n to the power of times, where an int holds it.
func raised(n, times int) int {
	answer := 1
	for range times {
		answer *= n
	}
	return answer
}

// powersOf answers the powers of primes in n, looked over with long numbers.
func powersOf(t *testing.T, n int) []api.Power {
	t.Helper()
	powers, f := prime.Factor(n)
	product := large(1)
	for _, p := range powers {
		if !large(p.Prime).ProbablyPrime(0) {
			t.Fatalf("%d is no prime", p.Prime)
		}
		product.Mul(product, new(big.Int).Exp(large(p.Prime), large(p.Times), nil))
	}
	if f != none || product.Cmp(large(n)) != 0 {
		t.Fatalf("the primes in %d: %v, %v", n, powers, f)
	}
	return powers
}

func wantMany(powers []api.Power) int {
	many := 1
	for _, p := range powers {
		many *= p.Times + 1
	}
	return many
}

func wantPhi(n int, powers []api.Power) int {
	phi := large(n)
	for _, p := range powers {
		phi.Div(phi, large(p.Prime)).Mul(phi, large(p.Prime-1))
	}
	return int(phi.Int64())
}

func wantSum(powers []api.Power) (int, api.Fault) {
	sum := large(1)
	for _, p := range powers {
		beyond := new(big.Int).Exp(large(p.Prime), large(p.Times+1), nil)
		sum.Mul(sum, beyond.Sub(beyond, large(1)).Div(beyond, large(p.Prime-1)))
	}
	if sum.Cmp(large(top)) > 0 {
		return 0, faultOf(api.ErrMuch, 0)
	}
	return int(sum.Int64()), none
}

func wantMoebius(powers []api.Power) int {
	for _, p := range powers {
		if p.Times > 1 {
			return 0
		}
	}
	return 1 - 2*(len(powers)%2)
}

// great are primes, powers and products of great primes, powers of 2 and of 3, numbers with very many divisors, and those at the bound.
func great() []int {
	list := []int{
		1<<31 - 1, 999999937, 1000000007, greatest, 999999929 * 999999937, 999999937 * 999999937, 999983 * 999983 * 999983, raised(997, 6), raised(40487, 3),
		2 * 333333333333333331, 614889782588491410, 304250263527210, 963761198400, raised(30, 12), 720720, 6469693230,
		richest - 1, richest, richest + 1, greatest - 1, greatest + 1, top - 1, top,
	}
	for times := range 60 {
		list = append(list, raised(2, times))
	}
	for times := range 38 {
		list = append(list, raised(3, times), 2*raised(3, times))
	}
	return list
}

// TestSmallNumbersByTryingAll: Divisors, Phi, Sum and Moebius of the face.
func TestSmallNumbersByTryingAll(t *testing.T) {
	for n := 1; n <= 1200; n++ {
		var divisors []int
		sum, phi := 0, 0
		for d := 1; d <= n; d++ {
			if n%d == 0 {
				divisors = append(divisors, d)
				sum += d
			}
			if sharesNone(d, n) {
				phi++
			}
		}
		if got, f := hang.Divisors(n); !slices.Equal(got, divisors) || f != none {
			t.Fatalf("Divisors(%d): %v, %v, want %v", n, got, f, divisors)
		}
		if got, f := hang.Phi(n); got != phi || f != none {
			t.Fatalf("Phi(%d): %d, %v, want %d", n, got, f, phi)
		}
		if got, f := hang.Sum(n); got != sum || f != none {
			t.Fatalf("Sum(%d): %d, %v, want %d", n, got, f, sum)
		}
		if got, f := hang.Moebius(n); got != triedMoebius(divisors) || f != none {
			t.Fatalf("Moebius(%d): %d, %v, want %d", n, got, f, triedMoebius(divisors))
		}
	}
}

// sharesNone tells by trying all whether a has no divisor above 1 with m.
func sharesNone(a, m int) bool {
	for d := 2; d <= m; d++ {
		if m%d == 0 && a%d == 0 {
			return false
		}
	}
	return true
}

// triedMoebius takes each divisor above 1 for a prime that no other one divides.
func triedMoebius(divisors []int) int {
	n, answer := divisors[len(divisors)-1], 1
	for _, d := range divisors[1:] {
		if slices.ContainsFunc(divisors, func(inner int) bool { return inner > 1 && inner < d && d%inner == 0 }) {
			continue
		}
		if n%(d*d) == 0 {
			return 0
		}
		answer = -answer
	}
	return answer
}

// TestGreatNumbers: Divisors, Phi, Sum and Moebius of the face, held against long numbers.
func TestGreatNumbers(t *testing.T) {
	for _, n := range append(great(), sample.Positive(1000)...) {
		powers := powersOf(t, n)
		checkDivisors(t, n, wantMany(powers))
		if got, f := hang.Phi(n); got != wantPhi(n, powers) || f != none {
			t.Fatalf("Phi(%d): %d, %v, want %d", n, got, f, wantPhi(n, powers))
		}
		sum, fault := wantSum(powers)
		if got, f := hang.Sum(n); got != sum || f != fault {
			t.Fatalf("Sum(%d): %d, %v, want %d, %v", n, got, f, sum, fault)
		}
		if got, f := hang.Moebius(n); got != wantMoebius(powers) || f != none {
			t.Fatalf("Moebius(%d): %d, %v, want %d", n, got, f, wantMoebius(powers))
		}
	}
}

// checkDivisors holds Divisors of n against how many there are: so many numbers that rise and divide n are all.
func checkDivisors(t *testing.T, n, many int) {
	t.Helper()
	list, f := hang.Divisors(n)
	if many > api.MaxList {
		if len(list) != 0 || f != faultOf(api.ErrMuch, 0) {
			t.Fatalf("Divisors(%d): %d numbers, %v, want ErrMuch at 0", n, len(list), f)
		}
		return
	}
	if len(list) != many || f != none {
		t.Fatalf("Divisors(%d): %d numbers, %v, want %d", n, len(list), f, many)
	}
	last := 0
	for _, d := range list {
		if d <= last || n%d != 0 {
			t.Fatalf("Divisors(%d): %d stands after %d", n, d, last)
		}
		last = d
	}
}

func TestChosenNumbers(t *testing.T) {
	for _, c := range []struct{ n, phi, sum, moebius int }{
		{1, 1, 1, 1}, {2, 1, 3, -1}, {3, 2, 4, -1}, {4, 2, 7, 0}, {6, 2, 12, 1}, {12, 4, 28, 0}, {30, 8, 72, -1}, {100, 40, 217, 0}, {561, 320, 864, -1},
		{greatest, greatest - 1, greatest + 1, -1},
		{999999937 * 999999937, 999999936 * 999999937, 999999937*999999937 + 999999938, 0},
		{999999929 * 999999937, 999999928 * 999999936, 999999930 * 999999938, 1},
		{1 << 58, 1 << 57, 1<<59 - 1, 0},
		{raised(3, 37), 2 * raised(3, 36), 675425858836496044, 0},
		{963761198400, 157659955200, 5531765944320, 0},
	} {
		if got, f := hang.Phi(c.n); got != c.phi || f != none {
			t.Errorf("Phi(%d): %d, %v, want %d", c.n, got, f, c.phi)
		}
		if got, f := hang.Sum(c.n); got != c.sum || f != none {
			t.Errorf("Sum(%d): %d, %v, want %d", c.n, got, f, c.sum)
		}
		if got, f := hang.Moebius(c.n); got != c.moebius || f != none {
			t.Errorf("Moebius(%d): %d, %v, want %d", c.n, got, f, c.moebius)
		}
	}
}

// TestDivisorsTurnAtMaxList: just MaxList divisors are answered, one more is too many.
func TestDivisorsTurnAtMaxList(t *testing.T) {
	for n, many := range map[int]int{
		810810000: 1000, raised(30, 9): 1000, 62370000 * 9999999967: 1000, raised(2, 24) * raised(3, 9) * 7 * 11: 1000,
		raised(2, 12) * raised(3, 10) * raised(5, 6): 1001, raised(2, 6) * raised(3, 10) * raised(5, 12): 1001,
		6469693230: 1024, 735134400: 1344, top: 361, top - 1: 640, richest: 103680, 963761198400: 6720,
		1: 1, 2: 2, greatest: 2, 999999937 * 999999937: 3, 999999929 * 999999937: 4, 1 << 59: 60,
	} {
		if wanted := wantMany(powersOf(t, n)); wanted != many {
			t.Errorf("%d has %d divisors, not %d", n, wanted, many)
		}
		checkDivisors(t, n, many)
	}
}

// TestSumTurnsAtMaxNum: a sum of just MaxNum is answered, the next greater ones are too much.
func TestSumTurnsAtMaxNum(t *testing.T) {
	for n, want := range map[int]int{
		999499999999998001: top, 999218749999998721: top, 746249999999999403: top, 748499999999998503: top,
		666666666666666662: top - 4, greatest: greatest + 1, 749999999999999937: top - 80, 1 << 58: 1<<59 - 1,
	} {
		if got, f := hang.Sum(n); got != want || f != none {
			t.Errorf("Sum(%d): %d, %v, want %d", n, got, f, want)
		}
	}
	for _, n := range []int{
		999998305147353623, 977272727272727261, 973684210526315807, 875000000000000077, // 8, 32, 56 and 96 above MaxNum
		1 << 59, top - 1, top, raised(30, 12), 614889782588491410, richest,
	} {
		if got, f := hang.Sum(n); got != 0 || f != faultOf(api.ErrMuch, 0) {
			t.Errorf("Sum(%d): %d, %v, want ErrMuch at 0", n, got, f)
		}
	}
}

// TestSumsFitAnInt: what is said beside Sum, that no sum of divisors goes beyond an int.
func TestSumsFitAnInt(t *testing.T) {
	least, _ := prime.First(16)
	product, up, down := large(1), large(1), large(1)
	for _, p := range least[:15] {
		product.Mul(product, large(p))
		up.Mul(up, large(p))
		down.Mul(down, large(p-1))
	}
	if product.Cmp(large(top)) > 0 || product.Mul(product, large(least[15])).Cmp(large(top)) <= 0 {
		t.Errorf("15 primes are not the most in a number")
	}
	if up.Mul(up, large(10)).Cmp(down.Mul(down, large(73))) >= 0 || top > math.MaxInt/73*10 {
		t.Errorf("7.3 is not the bound")
	}
}

// TestWhatFollows: the Phis of all divisors are n in sum, the Moebius values are 0, if n is above 1.
func TestWhatFollows(t *testing.T) {
	numbers := append(great(), sample.Positive(300)...)
	for n := 1; n <= 2000; n++ {
		numbers = append(numbers, n)
	}
	for _, n := range numbers {
		phis, values := 0, 0
		for _, d := range allDivisors(powersOf(t, n)) {
			phi, f1 := hang.Phi(d)
			value, f2 := hang.Moebius(d)
			if f1 != none || f2 != none {
				t.Fatalf("of %d, which divides %d: %v, %v", d, n, f1, f2)
			}
			phis += phi
			values += value
		}
		if phis != n || n > 1 && values != 0 || n == 1 && values != 1 {
			t.Fatalf("of %d: the Phis are %d, the Moebius values %d in sum", n, phis, values)
		}
	}
}

// allDivisors answers them in no order, however many they are: Divisors does not tell more than MaxList.
func allDivisors(powers []api.Power) []int {
	if len(powers) == 0 {
		return []int{1}
	}
	var list []int
	for _, d := range allDivisors(powers[1:]) {
		for times := range powers[0].Times + 1 {
			list = append(list, d*raised(powers[0].Prime, times))
		}
	}
	return list
}

// TestNumbersOutOfRange: ErrRange at 0 of all but Order, and nothing beside it.
func TestNumbersOutOfRange(t *testing.T) {
	calls := map[string]func(int) (int, api.Fault){"Phi": hang.Phi, "Sum": hang.Sum, "Moebius": hang.Moebius, "Generator": hang.Generator}
	want := faultOf(api.ErrRange, 0)
	for _, n := range append(sample.Edges(), -7, -8, -greatest, -richest, math.MaxInt32, math.MinInt32) {
		if 1 <= n && n <= top {
			continue
		}
		if list, f := hang.Divisors(n); len(list) != 0 || f != want {
			t.Errorf("Divisors(%d): %v, %v, want ErrRange at 0", n, list, f)
		}
		for name, call := range calls {
			if got, f := call(n); got != 0 || f != want {
				t.Errorf("%s(%d): %d, %v, want ErrRange at 0", name, n, got, f)
			}
		}
	}
}

// TestDivisorsAreNewMemory: what a caller does with an answer is not seen in the next one.
func TestDivisorsAreNewMemory(t *testing.T) {
	for _, n := range []int{1, 2, 12, 810810000} {
		first, _ := hang.Divisors(n)
		kept := slices.Clone(first)
		clear(first[:cap(first)])
		if second, f := hang.Divisors(n); !slices.Equal(second, kept) || f != none {
			t.Errorf("Divisors(%d): %v, %v after the first answer was changed", n, second, f)
		}
	}
}
