package bern_test

import (
	"math/big"
	"slices"
	"testing"

	"arithmetica/api"
	"arithmetica/bern"
	"arithmetica/sample"
)

// ends are numbers up to which is summed: the edges, and drawn ones of all lengths.
func ends() []int {
	return append(sample.Positive(60), 0, 4, 5, 9, 10, 99, 100)
}

func sumOf(t *testing.T, k, n int) *big.Int {
	t.Helper()
	text, f := bern.Sum(k, n)
	if f != none {
		t.Fatalf("Sum(%d, %d): %v", k, n, f)
	}
	return wholeOf(t, text)
}

func TestSumOfSmallNumbersIsAdded(t *testing.T) {
	for k := range mostPower + 1 {
		for n, want := range added(k, 70) {
			if got := sumOf(t, k, n); got.Cmp(want) != 0 {
				t.Fatalf("Sum(%d, %d): %v, want %v", k, n, got, want)
			}
		}
	}
}

func TestSumIsWhatSumsTell(t *testing.T) {
	for k := range mostPower + 1 {
		parts := formulaOf(t, k)
		for _, n := range ends() {
			want := valueAt(parts, bigOf(n))
			if got := sumOf(t, k, n); want.Cmp(new(big.Rat).SetInt(got)) != 0 {
				t.Fatalf("Sum(%d, %d): %v, want %s", k, n, got, want.RatString())
			}
		}
	}
}

// TestSumGrowsByOnePower: without what Sums tell.
func TestSumGrowsByOnePower(t *testing.T) {
	for k := range mostPower + 1 {
		for _, n := range ends() {
			if n == 0 {
				continue
			}
			step := new(big.Int).Sub(sumOf(t, k, n), sumOf(t, k, n-1))
			if step.Cmp(power(bigOf(n), k)) != 0 {
				t.Fatalf("Sum(%d, %d) less the one ahead: %v", k, n, step)
			}
		}
	}
}

// TestSumOfCubesIsTheSquareOfTheSum: Nicomachus' theorem, of all small numbers and of chosen ones.
func TestSumOfCubesIsTheSquareOfTheSum(t *testing.T) {
	list := append(ends(), sample.Positive(2000)...)
	for n := range 2000 {
		list = append(list, n)
	}
	for _, n := range list {
		sum := sumOf(t, 1, n)
		if cubes := sumOf(t, 3, n); cubes.Cmp(new(big.Int).Mul(sum, sum)) != 0 {
			t.Fatalf("Sum(3, %d): %v, and Sum(1, %d): %v", n, cubes, n, sum)
		}
	}
}

func TestSumOfChosenPowers(t *testing.T) {
	const top = api.MaxNum
	for _, c := range []struct {
		k, n int
		want string
	}{
		{0, 0, "0"}, {0, 1, "1"}, {0, 7, "7"}, {0, top, "1000000000000000000"},
		{1, 0, "0"}, {1, 1, "1"}, {1, 100, "5050"}, {1, top, "500000000000000000500000000000000000"},
		{2, 3, "14"}, {2, 24, "4900"}, {2, top, "333333333333333333833333333333333333500000000000000000"},
		{3, 10, "3025"}, {3, top, "250000000000000000500000000000000000250000000000000000000000000000000000"},
		{5, 0, "0"}, {10, 1000, "91409924241424243424241924242500"},
		{60, 0, "0"}, {60, 1, "1"}, {60, 2, "1152921504606846977"}, {60, 3, "42391158276369125018901280178"},
	} {
		if text, f := bern.Sum(c.k, c.n); text != c.want || f != none {
			t.Errorf("Sum(%d, %d): %q, %v, want %s", c.k, c.n, text, f, c.want)
		}
	}
}

// wantSum is which fault P18.3 tells.
func wantSum(k, n int) api.Fault {
	if !isUpTo(mostPower, k) {
		return rangeAt(0)
	}
	if !isUpTo(api.MaxNum, n) {
		return rangeAt(1)
	}
	return none
}

func TestSumTellsItsFaults(t *testing.T) {
	outcomes := map[api.Fault]int{}
	for _, k := range wrongs() {
		for _, n := range slices.Concat(wrongs(), []int{api.MaxNum - 1, api.MaxNum, api.MaxNum + 1}) {
			want := wantSum(k, n)
			text, f := bern.Sum(k, n)
			if f != want || (f != none) != (text == "") {
				t.Fatalf("Sum(%d, %d): %q, %v, want %v", k, n, text, f, want)
			}
			outcomes[f]++
		}
	}
	if len(outcomes) != 3 {
		t.Errorf("not each outcome is met: %v", outcomes)
	}
}
