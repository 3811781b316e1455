package residue_test

import (
	"math"
	"math/big"
	"slices"
	"testing"

	"arithmetica/api"
	"arithmetica/prime"
	"arithmetica/residue"
	"arithmetica/sample"
)

const (
	top      = api.MaxNum
	greatest = 999999999999999989 // the greatest prime up to MaxNum
)

var none = api.Fault{}

func faultOf(code, at int) api.Fault { return api.Fault{Code: code, At: at} }

func large(n int) *big.Int { return big.NewInt(int64(n)) }

// raised answers n to the power of times, where an int holds it.
func raised(n, times int) int {
	return int(new(big.Int).Exp(large(n), large(times), nil).Int64())
}

// great are primes (of which some are 1 above a number with very many twos, or have only squares among the least numbers), powers and products of great primes, powers of 2 and of 3, numbers with many primes, and those at the bound.
func great() []int {
	list := []int{
		1<<31 - 1, 999999937, 1000000007, 1000000009, greatest, 180143985094819841, 6597069766657, 998244353, 196265095009, 712624335095093521,
		999999937 * 999999937, 998244353 * 998244353, 999983 * 999983 * 999983, 786433 * 786433 * 786433, raised(31607, 4), raised(257, 7), raised(17, 14), raised(7, 21), raised(5, 25),
		999999929 * 999999937, 998244353 * 999999937, 3 * 333333333333333253, 2 * 499999999999999993, 4 * 249999999999999919, 8 * 124999999999999957,
		614889782588491410, 307444891294245705, 3234846615, 100280245065, 304250263527210, 897612484786617600, 963761198400, 720720, raised(15, 15), raised(30, 12),
		greatest - 1, greatest + 1, top - 2, top - 1, top,
	}
	for times := range 60 {
		list = append(list, raised(2, times))
	}
	for times := range 38 {
		list = append(list, raised(3, times), 2*raised(3, times))
	}
	return list
}

// triedRoots tries all numbers from 0 to n - 1.
func triedRoots(a, n int) []int {
	var list []int
	for x := range n {
		if (x*x-a)%n == 0 {
			list = append(list, x)
		}
	}
	return list
}

// TestRootsByTryingAll: P5.1.
func TestRootsByTryingAll(t *testing.T) {
	for n := 1; n <= 300; n++ {
		for a := -n - 1; a <= 2*n; a++ {
			if got, f := residue.Roots(a, n); !slices.Equal(got, triedRoots(a, n)) || f != none {
				t.Fatalf("Roots(%d, %d): %v, %v, want %v", a, n, got, f, triedRoots(a, n))
			}
		}
	}
	// Numbers with higher powers in them, of which not all a need be tried.
	for _, n := range []int{512, 1024, 2048, 4096, 729, 2187, 625, 3125, 343, 2401, 1331, 1728, 3600, 2310, 4620, 1944, 2500, 2592} {
		for a := -n; a < n; a += 1 + n/300 {
			if got, f := residue.Roots(a, n); !slices.Equal(got, triedRoots(a, n)) || f != none {
				t.Fatalf("Roots(%d, %d): %v, %v, want %v", a, n, got, f, triedRoots(a, n))
			}
		}
		for x := range 2 * n {
			if got, f := residue.Roots(x*x, n); !slices.Equal(got, triedRoots(x*x, n)) || f != none {
				t.Fatalf("Roots(%d, %d): %v, %v, want %v", x*x, n, got, f, triedRoots(x*x, n))
			}
		}
	}
}

// wantMany answers how many roots of a there are by the product of powers: by one power, so many as a power of its prime is, and that once, twice or four times, if there are any.
func wantMany(a int, powers []api.Power) *big.Int {
	many := large(1)
	for _, p := range powers {
		many.Mul(many, wantManyByPower(a, p))
	}
	return many
}

func wantManyByPower(a int, p api.Power) *big.Int {
	base := large(p.Prime)
	rest := new(big.Int).Mod(large(a), new(big.Int).Exp(base, large(p.Times), nil))
	if rest.Sign() == 0 {
		return rest.Exp(base, large(p.Times/2), nil)
	}
	times := 0
	for new(big.Int).Mod(rest, base).Sign() == 0 {
		rest.Div(rest, base)
		times++
	}
	if times%2 == 1 {
		return large(0)
	}
	many := new(big.Int).Exp(base, large(times/2), nil)
	return many.Mul(many, large(wantManyOfUnit(rest, p.Prime, p.Times-times)))
}

// wantManyOfUnit: a unit has all roots or none, and by 2, 4 and 8 one, two and four units are roots of what leaves 1.
func wantManyOfUnit(u *big.Int, prime, times int) int {
	if prime > 2 {
		return 1 + big.Jacobi(u, large(prime))
	}
	many := 1 << min(times-1, 2)
	if new(big.Int).Mod(u, large(2*many)).Cmp(large(1)) != 0 {
		return 0
	}
	return many
}

// checkRoots holds Roots against how many there are: so many numbers that rise and whose squares leave what a leaves are all.
func checkRoots(t *testing.T, a, n int, many *big.Int) {
	t.Helper()
	list, f := residue.Roots(a, n)
	if many.Cmp(large(api.MaxList)) > 0 {
		if len(list) != 0 || f != faultOf(api.ErrMuch, 0) {
			t.Fatalf("Roots(%d, %d): %d numbers, %v, want ErrMuch at 0", a, n, len(list), f)
		}
		return
	}
	if large(len(list)).Cmp(many) != 0 || f != none {
		t.Fatalf("Roots(%d, %d): %d numbers, %v, want %d", a, n, len(list), f, many)
	}
	last := -1
	for _, x := range list {
		gap := new(big.Int).Mul(large(x), large(x))
		if x <= last || x >= n || gap.Sub(gap, large(a)).Mod(gap, large(n)).Sign() != 0 {
			t.Fatalf("Roots(%d, %d): %d stands after %d", a, n, x, last)
		}
		last = x
	}
}

// squareBy is what the square of x leaves by n, as often below 0 as not.
func squareBy(x, n int) int {
	square := new(big.Int).Mul(large(x), large(x))
	left := int(square.Mod(square, large(n)).Int64())
	if x%2 == 0 {
		return left - n
	}
	return left
}

// TestGreatRoots: P5.1, held against long numbers: of what squares leave, of what is chosen without thought, and of what shares divisors with n.
func TestGreatRoots(t *testing.T) {
	for _, n := range append(great(), sample.Positive(150)...) {
		powers, _ := prime.Factor(n)
		tries := []int{0, 1, -1, 2, -2, 3, 4, -4, 5, 7, n, -n, n - 1, n - 4, 9 - n, top, -top}
		for _, x := range sample.Spread(25) {
			tries = append(tries, x, squareBy(x, n))
			for _, p := range powers {
				divided := x / p.Prime * p.Prime
				tries = append(tries, divided, squareBy(divided, n))
			}
		}
		for _, a := range tries {
			checkRoots(t, a, n, wantMany(a, powers))
		}
	}
}

// TestRootsByPowersOfAPrime: P5.1 with a that has the prime in it each number of times, and that is a square or not beside.
func TestRootsByPowersOfAPrime(t *testing.T) {
	for _, p := range []int{2, 3, 5, 7, 11, 13, 31, 41, 97, 257, 997, 1009, 31607, 999983, 999999937} {
		for times := 1; raised(p, times-1) <= top/p; times++ {
			for inA := 0; inA <= times && raised(p, inA) <= top/20; inA++ {
				for u := -20; u <= 20; u++ {
					a := u * raised(p, inA)
					checkRoots(t, a, raised(p, times), wantMany(a, []api.Power{{Prime: p, Times: times}}))
				}
			}
		}
	}
}

func TestChosenRoots(t *testing.T) {
	for _, c := range []struct {
		a, n int
		want []int
	}{
		{1, 8, []int{1, 3, 5, 7}}, {4, 15, []int{2, 7, 8, 13}}, {0, 12, []int{0, 6}}, {2, 5, nil}, {3, 1, []int{0}}, {9, 27, []int{3, 6, 12, 15, 21, 24}}, {-1, 13, []int{5, 8}}, {2, 15, nil},
		{0, 1, []int{0}}, {-1, 1, []int{0}}, {top, 1, []int{0}}, {-top, 1, []int{0}}, {0, 2, []int{0}}, {1, 2, []int{1}}, {-1, 2, []int{1}}, {top, 2, []int{0}},
		{0, 4, []int{0, 2}}, {1, 4, []int{1, 3}}, {2, 4, nil}, {3, 4, nil}, {-3, 4, []int{1, 3}}, {0, 8, []int{0, 4}}, {4, 8, []int{2, 6}}, {-4, 8, []int{2, 6}}, {2, 8, nil}, {3, 8, nil}, {5, 8, nil}, {6, 8, nil}, {7, 8, nil}, {-7, 8, []int{1, 3, 5, 7}},
		{0, 9, []int{0, 3, 6}}, {3, 9, nil}, {6, 9, nil}, {0, 27, []int{0, 9, 18}}, {0, 16, []int{0, 4, 8, 12}}, {4, 16, []int{2, 6, 10, 14}}, {8, 16, nil}, {36, 108, []int{6, 12, 24, 30, 42, 48, 60, 66, 78, 84, 96, 102}},
		{2, greatest, nil}, {3, greatest, nil}, {0, greatest, []int{0}}, {greatest, greatest, []int{0}}, {-greatest, greatest, []int{0}}, {1, greatest, []int{1, greatest - 1}},
		{5, greatest, []int{253410318647490113, 746589681352509876}}, {-1, greatest, []int{360767842200205855, 639232157799794134}}, {7, greatest, []int{175181819471296840, 824818180528703149}},
		{top, greatest, []int{1000000000, 999999998999999989}}, {-top, greatest, []int{200205858968446262, 799794141031553727}},
		{-1, 1000000007, nil}, {3, 1000000007, []int{82062379, 917937628}}, {-1, 1000000009, []int{430477711, 569522298}},
		{-1, 999999937 * 999999937, []int{376534737800428959, 623465136199575010}}, {2, 999999937 * 999999937, []int{200182990881484919, 799816883118519050}}, {999999937, 999999937 * 999999937, nil},
		{2, raised(999983, 3), []int{459478907395110162, 540470093471884925}}, {7, raised(3, 37), []int{73795957310324686, 376487948580672677}}, {-2, raised(3, 37), []int{90730648451617061, 359553257439380302}}, {2, raised(3, 37), nil},
		{17, 1 << 59, []int{117729053067388649, 170501323084323095, 405959429219100393, 458731699236034839}}, {-7, 1 << 59, []int{122929126349258933, 165301249802452811, 411159502500970677, 453531625954164555}}, {5, 1 << 59, nil}, {3, 1 << 59, nil},
		{-1, 999999929 * 999999937, []int{66142749355125463, 303327467412487284, 696672398587517189, 933857116644879010}}, {4, 999999929 * 999999937, []int{2, 499999932500002270, 499999933500002203, 999999866000004471}}, {0, 999999929 * 999999937, []int{0}},
		{1, top, []int{1, 12519836425781249, 487480163574218751, 499999999999999999, 500000000000000001, 512519836425781249, 987480163574218751, 999999999999999999}},
		{-31, top, []int{123356796379027313, 133181594734253937, 366818405265746063, 376643203620972687, 623356796379027313, 633181594734253937, 866818405265746063, 876643203620972687}},
		{-1, top, nil}, {2, top, nil}, {-1, top - 1, nil},
	} {
		if got, f := residue.Roots(c.a, c.n); !slices.Equal(got, c.want) || f != none {
			t.Errorf("Roots(%d, %d): %v, %v, want %v", c.a, c.n, got, f, c.want)
		}
	}
}

// TestRootsTurnAtMaxList: just MaxList roots are answered, one more is too many.
func TestRootsTurnAtMaxList(t *testing.T) {
	for _, c := range []struct{ a, n, many int }{
		{0, 1000000, 1000}, {-top, 1000000, 1000}, {0, 3000000, 1000}, {1000000, 2000000, 1000}, {raised(5, 6), raised(5, 7) * 7 * 11, 1000}, {0, 1000000 * 999999999989, 1000},
		{0, 998001, 999}, {0, 997 * 997, 997}, {0, raised(997, 3), 997}, {0, raised(31, 5), 961}, {0, raised(3, 13), 729}, {0, 1 << 19, 512}, {1, 3234846615, 512}, {4, 3234846615, 512},
		{0, 1002001, 1001}, {1002001, 2004002, 1001}, {-1002001, 2004002, 1001}, {251001, 251001 * 7, 1002}, {0, 1009 * 1009, 1009}, {0, raised(1009, 3), 1009}, {0, 1 << 20, 1024}, {0, raised(3, 14), 2187},
		{1, 100280245065, 1024}, {4, 100280245065, 1024}, {1, 614889782588491410, 16384}, {1 << 40, 1 << 59, 1 << 22}, {0, 999999937 * 999999937, 999999937}, {0, top, 1000000000}, {top, top, 1000000000}, {-top, top, 1000000000},
	} {
		powers, _ := prime.Factor(c.n)
		if wanted := wantMany(c.a, powers); wanted.Cmp(large(c.many)) != 0 {
			t.Errorf("%d has %d roots by %d, not %d", c.a, wanted, c.n, c.many)
		}
		checkRoots(t, c.a, c.n, large(c.many))
	}
}

// TestNoRootIsNoFault: where there is none by one power of a prime, there is none at all, however many there are by another.
func TestNoRootIsNoFault(t *testing.T) {
	for _, c := range [][2]int{
		{2000000000000, 3000000000000}, {-1000000000000, 999983 * 1000000000000}, {8 * 31607 * 31607, 16 * 31607 * 31607}, {2 * 999999937, 4 * 999999937}, {1 << 57, 1 << 58}, {2 * 14348907, 14348907 * 14348907},
	} {
		if list, f := residue.Roots(c[0], c[1]); len(list) != 0 || f != none {
			t.Errorf("Roots(%d, %d): %v, %v, want none", c[0], c[1], list, f)
		}
	}
}

// TestSymbolsCountRoots: by an odd prime there is one root more than the symbol is.
func TestSymbolsCountRoots(t *testing.T) {
	for _, p := range great() {
		if is, _ := prime.Is(p); !is || p == 2 {
			continue
		}
		for _, a := range sample.Numbers(40) {
			symbol, f1 := residue.Jacobi(a, p)
			list, f2 := residue.Roots(a, p)
			if len(list) != symbol+1 || f1 != none || f2 != none {
				t.Fatalf("of %d by %d: %d, %v, %v, %v", a, p, symbol, list, f1, f2)
			}
		}
	}
}

// checkFaults tries all edges in both places: call tells whether its answer is empty, and fits which numbers may stand second. ErrRange is told of the others alone.
func checkFaults(t *testing.T, name string, call func(a, n int) (bool, api.Fault), fits func(int) bool) {
	t.Helper()
	isNumber := func(n int) bool { return -top <= n && n <= top }
	edges := append(sample.Edges(), -7, -8, -9, 4, 5, -greatest, greatest, math.MinInt32)
	for _, a := range edges {
		for _, n := range edges {
			empty, f := call(a, n)
			if isNumber(a) && isNumber(n) && fits(n) {
				if f.Code == api.ErrRange {
					t.Errorf("%s(%d, %d): %v", name, a, n, f)
				}
				continue
			}
			want := faultOf(api.ErrRange, 1)
			if !isNumber(a) {
				want.At = 0
			}
			if !empty || f != want {
				t.Errorf("%s(%d, %d): empty is %v, %v, want %v", name, a, n, empty, f, want)
			}
		}
	}
}

// TestFaultsOfRoots: ErrRange at the first that is no number, then at 1, and nothing beside it.
func TestFaultsOfRoots(t *testing.T) {
	checkFaults(t, "Roots", func(a, n int) (bool, api.Fault) {
		list, f := residue.Roots(a, n)
		return len(list) == 0, f
	}, func(n int) bool { return n > 0 })
}

// TestRootsAreNewMemory: what a caller does with an answer is not seen in the next one.
func TestRootsAreNewMemory(t *testing.T) {
	for _, c := range [][2]int{{0, 1}, {1, 8}, {4, 15}, {9, 27}, {0, 1000000}, {-1, greatest}} {
		first, _ := residue.Roots(c[0], c[1])
		kept := slices.Clone(first)
		clear(first[:cap(first)])
		if second, f := residue.Roots(c[0], c[1]); !slices.Equal(second, kept) || f != none {
			t.Errorf("Roots(%d, %d): %v, %v after the first answer was changed", c[0], c[1], second, f)
		}
	}
}
