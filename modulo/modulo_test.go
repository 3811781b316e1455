package modulo_test

import (
	"math/big"
	"testing"

	"arithmetica/modulo"
	"arithmetica/sample"
)

func large(n int) *big.Int { return big.NewInt(int64(n)) }

func TestLeftAndProductAreEuclids(t *testing.T) {
	for _, m := range sample.Positive(60) {
		for _, a := range sample.Numbers(60) {
			left := modulo.Left(a, m)
			if want := new(big.Int).Mod(large(a), large(m)); large(left).Cmp(want) != 0 {
				t.Fatalf("Left(%d, %d): %d, want %d", a, m, left, want)
			}
			for _, b := range []int{left, m - 1, m / 2, 1 % m} {
				want := new(big.Int).Mul(large(left), large(b))
				if got := modulo.Product(left, b, m); large(got).Cmp(want.Mod(want, large(m))) != 0 {
					t.Fatalf("Product(%d, %d, %d): %d, want %d", left, b, m, got, want)
				}
			}
		}
	}
}

func TestPowerIsThatOfLongNumbers(t *testing.T) {
	for _, m := range sample.Positive(20) {
		for _, a := range sample.Numbers(20) {
			for _, n := range append(sample.Positive(20), 0) {
				want := new(big.Int).Exp(large(modulo.Left(a, m)), large(n), large(m))
				if got := modulo.Power(a, n, m); large(got).Cmp(want) != 0 {
					t.Fatalf("Power(%d, %d, %d): %d, want %d", a, n, m, got, want)
				}
			}
		}
	}
}
