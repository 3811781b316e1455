package bern_test

import (
	"math"
	"math/big"
	"slices"
	"testing"

	"arithmetica/api"
	"arithmetica/sample"
)

const (
	mostNumber = 200 // Bernoulli's numbers, things and sets
	mostPower  = 60
)

var none api.Fault

func rangeAt(at int) api.Fault { return api.Fault{Code: api.ErrRange, At: at} }

func isUpTo(most, n int) bool { return 0 <= n && n <= most }

func bigOf(n int) *big.Int { return big.NewInt(int64(n)) }

func power(n *big.Int, k int) *big.Int { return new(big.Int).Exp(n, bigOf(k), nil) }

// fractionOf reads a fraction, which must be written as the chapter says: in lowest terms, without what stands below if it is 1.
func fractionOf(t *testing.T, text string) *big.Rat {
	t.Helper()
	x, ok := new(big.Rat).SetString(text)
	if !ok || x.RatString() != text {
		t.Fatalf("%q is not how a fraction is written", text)
	}
	return x
}

// wholeOf reads a whole number from 0 on, in decimal.
func wholeOf(t *testing.T, text string) *big.Int {
	t.Helper()
	n, ok := new(big.Int).SetString(text, 10)
	if !ok || n.Sign() < 0 || n.String() != text {
		t.Fatalf("%q is not how a whole number is written", text)
	}
	return n
}

// choose answers in how many ways k of n things can be chosen.
func choose(n, k int) *big.Int { return new(big.Int).Binomial(int64(n), int64(k)) }

// wrongs are the edges of an int, and numbers beyond the bounds of this layer and beside them.
func wrongs() []int {
	const low = 1 << 32
	return slices.Concat(sample.Edges(), sample.Beyond(), []int{
		-201, -200, -61, -60, -3, 4, 5, 12, 58, 62, 100, 198, 199, 200, 201, 202, 255, 256, 1000,
		low + 1, low + 12, low + 60, low + 200, -low + 2, 1 << 62, -1 << 62, math.MinInt + 60, math.MinInt + 200,
	})
}
