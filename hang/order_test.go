package hang_test

import (
	"math/big"
	"testing"

	"arithmetica/api"
	"arithmetica/hang"
	"arithmetica/sample"
)

// triedOrder multiplies until what 1 leaves comes back, and answers 0 if it does not within m steps: by then all that comes has come.
func triedOrder(a, m int) int {
	rest := ((a % m) + m) % m
	left := rest
	for n := 1; n <= m; n++ {
		if left == 1%m {
			return n
		}
		left = left * rest % m
	}
	return 0
}

// TestOrderByTryingAll: P4.1.
func TestOrderByTryingAll(t *testing.T) {
	for m := 1; m <= 150; m++ {
		for a := -2 * m; a <= 2*m; a++ {
			want, fault := triedOrder(a, m), none
			if want == 0 {
				fault = faultOf(api.ErrNone, 0)
			}
			if got, f := hang.Order(a, m); got != want || f != fault {
				t.Fatalf("Order(%d, %d): %d, %v, want %d, %v", a, m, got, f, want, fault)
			}
		}
	}
}

func TestOrderOfChosenNumbers(t *testing.T) {
	for _, c := range []struct{ a, m, want int }{
		{2, 7, 3}, {3, 7, 6}, {-1, 7, 2}, {-2, 7, 6}, {8, 7, 1}, {-6, 7, 1}, {10, 7, 6}, {2, 1093 * 1093, 364}, {2, 3511 * 3511, 1755}, {2, raised(1093, 5), 475293493948},
		{0, 1, 1}, {1, 1, 1}, {-1, 1, 1}, {5, 1, 1}, {top, 1, 1}, {-top, 1, 1}, {1, 2, 1}, {-1, 2, 1}, {top - 1, 2, 1}, {3, 4, 2}, {-1, 4, 2},
		{1, greatest, 1}, {greatest - 1, greatest, 2}, {-1, greatest, 2}, {greatest + 1, greatest, 1}, {2, greatest, greatest - 1}, {10, greatest, greatest - 1},
		{1, top, 1}, {top - 1, top, 2}, {-1, top, 2}, {1 - top, top, 1}, {3, top, 50000000000000000}, {7, top, 5000000000000000},
		{2, 1<<59 - 1, 59}, {3, 1 << 59, 1 << 57}, {5, 1 << 59, 1 << 57}, {7, 1 << 59, 1 << 56}, {1<<58 + 1, 1 << 59, 2}, {1<<58 - 1, 1 << 59, 2},
		{2, raised(3, 37), 2 * raised(3, 36)}, {4, raised(3, 37), raised(3, 36)}, {10, raised(3, 37), raised(3, 35)},
		{10, 999999937, 333333312}, {10, 999999937 * 999999937, 333333291000001344}, {2, 999999929 * 999999937, 5208332625000024},
		{53, richest, 221760}, {11, richest - 1, 37400460820409995}, {2, 307444891294245705, 637560},
	} {
		if got, f := hang.Order(c.a, c.m); got != c.want || f != none {
			t.Errorf("Order(%d, %d): %d, %v, want %d", c.a, c.m, got, f, c.want)
		}
	}
}

// TestOrderOfWhatSharesADivisor: no power of it leaves 1.
func TestOrderOfWhatSharesADivisor(t *testing.T) {
	for _, c := range [][2]int{
		{0, 2}, {0, 7}, {0, greatest}, {0, top}, {2, 2}, {2, 4}, {-2, 4}, {6, 4}, {7, 7}, {-7, 7}, {14, 7}, {3, 12}, {10, 15},
		{greatest, greatest}, {-greatest, greatest}, {top, top}, {-top, top}, {5, top}, {top, 2}, {top / 2, top},
		{999999937, 999999929 * 999999937}, {999999929, 999999929 * 999999937}, {999999937, 999999937 * 999999937}, {37, richest}, {2, 1 << 59},
	} {
		if got, f := hang.Order(c[0], c[1]); got != 0 || f != faultOf(api.ErrNone, 0) {
			t.Errorf("Order(%d, %d): %d, %v, want ErrNone at 0", c[0], c[1], got, f)
		}
	}
}

// leaves answers what a to the power of n leaves by m.
func leaves(a, n, m int) *big.Int {
	rest := new(big.Int).Mod(large(a), large(m))
	return rest.Exp(rest, large(n), large(m))
}

// isOrder tells whether n is the order of a by m above 1: a to the power of n leaves 1, and with one prime less in n it does not.
func isOrder(t *testing.T, n, a, m int) bool {
	t.Helper()
	one := large(1)
	if n < 1 || leaves(a, n, m).Cmp(one) != 0 {
		return false
	}
	for _, p := range powersOf(t, n) {
		if leaves(a, n/p.Prime, m).Cmp(one) == 0 {
			return false
		}
	}
	return true
}

func shared(a, m int) bool {
	a = max(a, -a)
	return new(big.Int).GCD(nil, nil, large(a), large(m)).Cmp(large(1)) != 0
}

func TestOrderOfManyNumbers(t *testing.T) {
	for _, m := range append(great(), sample.Positive(60)...) {
		for _, a := range sample.Numbers(15) {
			got, f := hang.Order(a, m)
			switch {
			case m == 1:
				if got != 1 || f != none {
					t.Fatalf("Order(%d, 1): %d, %v, want 1", a, got, f)
				}
			case shared(a, m):
				if got != 0 || f != faultOf(api.ErrNone, 0) {
					t.Fatalf("Order(%d, %d): %d, %v, want ErrNone at 0", a, m, got, f)
				}
			case f != none || !isOrder(t, got, a, m):
				t.Fatalf("Order(%d, %d): %d, %v", a, m, got, f)
			}
		}
	}
}

// TestOrderOutOfRange: each argument, and which of two is told.
func TestOrderOutOfRange(t *testing.T) {
	isNumber := func(n int) bool { return -top <= n && n <= top }
	for _, a := range sample.Edges() {
		for _, m := range sample.Edges() {
			want := none
			switch {
			case !isNumber(a):
				want = faultOf(api.ErrRange, 0)
			case !isNumber(m) || m < 1:
				want = faultOf(api.ErrRange, 1)
			case shared(a, m):
				want = faultOf(api.ErrNone, 0)
			}
			if got, f := hang.Order(a, m); f != want || want != none && got != 0 {
				t.Errorf("Order(%d, %d): %d, %v, want %v", a, m, got, f, want)
			}
		}
	}
}

// triedGenerator answers the least number whose powers, from the power 0 on, are all units by m, or -1 if no number from 1 to m is one: the next ones leave the same again.
func triedGenerator(m int) int {
	units := 0
	for a := range m {
		if sharesNone(a, m) {
			units++
		}
	}
	for g := 1; g <= m; g++ {
		come := map[int]int{}
		for power := 1 % m; come[power] == 0; power = power * g % m {
			come[power]++
		}
		many := 0
		for power := range come {
			if sharesNone(power, m) {
				many++
			}
		}
		if many == units {
			return g
		}
	}
	return -1
}

// TestGeneratorByTryingAll: P4.2.
func TestGeneratorByTryingAll(t *testing.T) {
	for m := 2; m <= 300; m++ {
		want, fault := triedGenerator(m), none
		if want < 0 {
			want, fault = 0, faultOf(api.ErrNone, 0)
		}
		if got, f := hang.Generator(m); got != want || f != fault {
			t.Fatalf("Generator(%d): %d, %v, want %d, %v", m, got, f, want, fault)
		}
	}
}

func TestGeneratorOfChosenNumbers(t *testing.T) {
	for m, want := range map[int]int{
		1: 0, 2: 1, 3: 2, 4: 3, 5: 2, 6: 5, 7: 3, 9: 2, 10: 3, 14: 3, 18: 5, 22: 7, 25: 2, 41: 6, 82: 7,
		40487: 5, raised(40487, 2): 10, raised(40487, 3): 10, 2 * 40487: 5, 2 * raised(40487, 2): 13, // 5 is no generator by the square
		raised(3, 37): 2, 2 * raised(3, 37): 5, raised(5, 25): 2, raised(7, 21): 3, raised(47, 10): 5, 999983 * 999983 * 999983: 5,
		760321: 73, 760321 * 760321: 73, raised(760321, 3): 73, 2 * 760321: 73, 5109721: 94, 6064561441: 179, 28725635761: 227, 44384069747161: 293, 89637484042681: 335,
		999999937: 11, 999999937 * 999999937: 11, greatest: 2,
	} {
		if got, f := hang.Generator(m); got != want || f != none {
			t.Errorf("Generator(%d): %d, %v, want %d", m, got, f, want)
		}
	}
}

func TestNumbersWithoutGenerator(t *testing.T) {
	list := []int{
		8, 12, 15, 16, 20, 21, 24, 30, 36, 60, 63, 105, 210, 561, 4 * 999999937, 999999929 * 999999937, 2 * 3 * 40487, 4 * raised(3, 20), 8 * raised(3, 35), 15 * raised(7, 10),
		richest, 614889782588491410, greatest - 1, greatest + 1, top - 1, top,
	}
	for times := 3; times < 60; times++ {
		list = append(list, 1<<times)
	}
	for _, m := range list {
		if got, f := hang.Generator(m); got != 0 || f != faultOf(api.ErrNone, 0) {
			t.Errorf("Generator(%d): %d, %v, want ErrNone at 0", m, got, f)
		}
	}
}

// TestGeneratorOfManyNumbers: powers of odd primes of all lengths, and twice these.
func TestGeneratorOfManyNumbers(t *testing.T) {
	for _, n := range sample.Positive(150) {
		p := min(n|1, greatest)
		for p < 3 || !large(p).ProbablyPrime(0) {
			p += 2
		}
		for m := p; ; m *= p {
			checkGenerator(t, m)
			if m <= top/2 {
				checkGenerator(t, 2*m)
			}
			if m > top/p {
				break
			}
		}
	}
}

// checkGenerator looks over Generator of m, where there is one: it is a unit whose order is Phi, and none below it is.
func checkGenerator(t *testing.T, m int) {
	t.Helper()
	phi := wantPhi(m, powersOf(t, m))
	got, f := hang.Generator(m)
	if f != none || shared(got, m) || !isOrder(t, phi, got, m) {
		t.Fatalf("Generator(%d): %d, %v", m, got, f)
	}
	for g := 1; g < got; g++ {
		if !shared(g, m) && isOrder(t, phi, g, m) {
			t.Fatalf("Generator(%d): %d, but %d is one, too", m, got, g)
		}
	}
}
