package residue_test

import (
	"math/big"
	"testing"

	"arithmetica/api"
	"arithmetica/prime"
	"arithmetica/residue"
	"arithmetica/sample"
)

// triedLegendre tells Legendre's symbol by trying all squares.
func triedLegendre(a, p int) int {
	left := ((a % p) + p) % p
	if left == 0 {
		return 0
	}
	for x := range p {
		if x*x%p == left {
			return 1
		}
	}
	return -1
}

// triedJacobi divides by all odd numbers, each as often as it goes: only primes do.
func triedJacobi(a, n int) int {
	answer := 1
	for p := 3; n > 1; p += 2 {
		for n%p == 0 {
			answer *= triedLegendre(a, p)
			n /= p
		}
	}
	return answer
}

// TestJacobiByTryingAllSquares: Legendre's and Jacobi's symbols as the chapter says what they are.
func TestJacobiByTryingAllSquares(t *testing.T) {
	for n := 1; n <= 405; n += 2 {
		for a := -2*n - 1; a <= 2*n+1; a++ {
			if got, f := residue.Jacobi(a, n); got != triedJacobi(a, n) || f != none {
				t.Fatalf("Jacobi(%d, %d): %d, %v, want %d", a, n, got, f, triedJacobi(a, n))
			}
		}
	}
}

// odds are odd numbers above 0, great ones of all kinds among them.
func odds(many int) []int {
	var list []int
	for _, n := range append(great(), sample.Positive(many)...) {
		if n%2 == 1 {
			list = append(list, n)
		}
	}
	return list
}

// TestJacobiOfGreatNumbers holds it against long numbers: against the product of Legendre's symbols, which are powers (Euler).
func TestJacobiOfGreatNumbers(t *testing.T) {
	for _, n := range odds(60) {
		powers, _ := prime.Factor(n)
		tries := append(sample.Numbers(60), n, -n, n-1, n-2, 2-n)
		for _, p := range powers {
			tries = append(tries, p.Prime, -p.Prime, n/p.Prime)
		}
		for _, a := range tries {
			want := 1
			for _, p := range powers {
				for range p.Times {
					want *= eulerSymbol(a, p.Prime)
				}
			}
			if got, f := residue.Jacobi(a, n); got != want || f != none {
				t.Fatalf("Jacobi(%d, %d): %d, %v, want %d", a, n, got, f, want)
			}
			if big.Jacobi(large(a), large(n)) != want {
				t.Fatalf("the symbol of %d and %d is not %d", a, n, want)
			}
		}
	}
}

// eulerSymbol is Legendre's symbol: it leaves what a leaves to the power of (p - 1) / 2.
func eulerSymbol(a, p int) int {
	power := new(big.Int).Exp(new(big.Int).Mod(large(a), large(p)), large((p-1)/2), large(p))
	if power.Cmp(large(p-1)) == 0 {
		return -1
	}
	return int(power.Int64())
}

func TestJacobiOfChosenNumbers(t *testing.T) {
	for _, c := range []struct{ a, n, want int }{
		{2, 15, 1}, {-3, 9, 0}, {8, 15, 1}, {7, 15, -1}, {-1, 15, -1}, {5, 21, 1}, {1001, 9907, -1}, {19, 45, 1}, {2, 9, 1}, {2, 3, -1}, {2, 7, 1}, {2, 5, -1}, {2, 17, 1},
		{0, 1, 1}, {1, 1, 1}, {-1, 1, 1}, {2, 1, 1}, {top, 1, 1}, {-top, 1, 1},
		{0, 3, 0}, {0, 9, 0}, {0, greatest, 0}, {0, top - 1, 0}, {1, 3, 1}, {1, greatest, 1}, {1, top - 1, 1},
		{-1, 3, -1}, {-1, 5, 1}, {-1, greatest, 1}, {-1, top - 1, -1}, {-1, 999999999999999877, 1}, {2, greatest, -1}, {3, greatest, -1}, {5, greatest, 1}, {7, greatest, 1},
		{7, 7, 0}, {8, 7, 1}, {10, 7, -1}, {-7, 7, 0}, {-8, 7, -1}, {-4, 7, -1}, {-13, 7, 1}, {6, 9, 0}, {15, 21, 0}, {-15, 21, 0}, {35, 15, 0},
		{greatest, greatest, 0}, {greatest + 1, greatest, 1}, {greatest + 2, greatest, -1}, {-greatest, greatest, 0}, {-greatest - 2, greatest, -1}, {greatest - 1, greatest, 1},
		{top, greatest, 1}, {-top, greatest, 1}, {top, top - 1, 1}, {-top, top - 1, -1}, {999999937, 999999929 * 999999937, 0}, {2, 999999937 * 999999937, 1},
	} {
		if c.n%2 == 0 {
			t.Fatalf("%d is even", c.n)
		}
		if got, f := residue.Jacobi(c.a, c.n); got != c.want || f != none {
			t.Errorf("Jacobi(%d, %d): %d, %v, want %d", c.a, c.n, got, f, c.want)
		}
	}
}

// TestTheSymbolsTurnAsGaussSays: what follows, of two odd numbers without a common divisor above 1, and of 2.
func TestTheSymbolsTurnAsGaussSays(t *testing.T) {
	list := odds(250)
	for n := 1; n <= 201; n += 2 {
		list = append(list, n)
	}
	for _, n := range list {
		wantOfTwo := -1
		if n%8 == 1 || n%8 == 7 {
			wantOfTwo = 1
		}
		if got, f := residue.Jacobi(2, n); got != wantOfTwo || f != none {
			t.Fatalf("Jacobi(2, %d): %d, %v, want %d", n, got, f, wantOfTwo)
		}
		for _, m := range list {
			one, f1 := residue.Jacobi(m, n)
			other, f2 := residue.Jacobi(n, m)
			want := other
			if m%4 == 3 && n%4 == 3 {
				want = -other
			}
			share := new(big.Int).GCD(nil, nil, large(m), large(n)).Cmp(large(1)) > 0
			if one != want || (one == 0) != share || f1 != none || f2 != none {
				t.Fatalf("of %d and %d: %d, %d, %v, %v", m, n, one, other, f1, f2)
			}
		}
	}
}

// TestFaultsOfJacobi: ErrRange at the first that is no number, then at 1, and nothing beside it.
func TestFaultsOfJacobi(t *testing.T) {
	checkFaults(t, "Jacobi", func(a, n int) (bool, api.Fault) {
		got, f := residue.Jacobi(a, n)
		return got == 0, f
	}, func(n int) bool { return n > 0 && n%2 == 1 })
}
