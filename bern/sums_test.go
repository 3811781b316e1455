package bern_test

import (
	"math/big"
	"slices"
	"strings"
	"testing"

	"arithmetica/api"
	"arithmetica/bern"
)

// formulaOf reads what Sums answers of k.
func formulaOf(t *testing.T, k int) []*big.Rat {
	t.Helper()
	list, f := bern.Sums(k)
	if len(list) != k+2 || f != none {
		t.Fatalf("Sums(%d): %d fractions, %v", k, len(list), f)
	}
	var parts []*big.Rat
	for _, text := range list {
		parts = append(parts, fractionOf(t, text))
	}
	return parts
}

// valueAt answers parts[0] + parts[1] n + parts[2] n^2 and so on.
func valueAt(parts []*big.Rat, n *big.Int) *big.Rat {
	sum := new(big.Rat)
	for i, part := range parts {
		term := new(big.Rat).SetInt(power(n, i))
		sum.Add(sum, term.Mul(term, part))
	}
	return sum
}

// added answers 1^k + .. + n^k of all n up to most.
func added(k, most int) []*big.Int {
	list := []*big.Int{new(big.Int)}
	for n := range most {
		list = append(list, new(big.Int).Add(list[n], power(bigOf(n+1), k)))
	}
	return list
}

// TestSumsAreWhatPowersAddUpTo: at more numbers than the formula has parts, and so no other fractions would do.
func TestSumsAreWhatPowersAddUpTo(t *testing.T) {
	for k := range mostPower + 1 {
		parts := formulaOf(t, k)
		for n, want := range added(k, k+40) {
			if got := valueAt(parts, bigOf(n)); got.Cmp(new(big.Rat).SetInt(want)) != 0 {
				t.Fatalf("Sums(%d) at %d: %s, want %s", k, n, got.RatString(), want)
			}
		}
	}
}

func TestSumsOfChosenPowers(t *testing.T) {
	for k, want := range map[int]string{
		0: "0 1", 1: "0 1/2 1/2", 2: "0 1/6 1/2 1/3", 3: "0 0 1/4 1/2 1/4", 4: "0 -1/30 0 1/3 1/2 1/5", 5: "0 0 -1/12 0 5/12 1/2 1/6", 6: "0 1/42 0 -1/6 0 1/2 1/2 1/7",
		10: "0 5/66 0 -1/2 0 1 0 -1 0 5/6 1/2 1/11",
	} {
		if list, f := bern.Sums(k); strings.Join(list, " ") != want || f != none {
			t.Errorf("Sums(%d): %q, %v, want %s", k, list, f, want)
		}
	}
}

// TestTheSumOfCubesIsASquare: as formulas, and so for all n (Nicomachus).
func TestTheSumOfCubesIsASquare(t *testing.T) {
	cubes, numbers := formulaOf(t, 3), formulaOf(t, 1)
	square := make([]*big.Rat, len(cubes))
	for i := range square {
		square[i] = new(big.Rat)
	}
	for i, a := range numbers {
		for j, b := range numbers {
			square[i+j].Add(square[i+j], new(big.Rat).Mul(a, b))
		}
	}
	for i, part := range square {
		if part.Cmp(cubes[i]) != 0 {
			t.Errorf("n^%d: %s, and in the square %s", i, cubes[i].RatString(), part.RatString())
		}
	}
}

// TestSumsBeginWithNumber: the part of n alone is Bernoulli's number, the sign of the second one turned.
func TestSumsBeginWithNumber(t *testing.T) {
	for k := range mostPower + 1 {
		want := fractionOf(t, numbers()[k])
		if k == 1 {
			want.Neg(want)
		}
		if got := formulaOf(t, k)[1]; got.Cmp(want) != 0 {
			t.Errorf("Sums(%d): the part of n is %s, want %s", k, got.RatString(), want.RatString())
		}
	}
}

func TestSumsTellTheirFault(t *testing.T) {
	outcomes := map[api.Fault]int{}
	for _, k := range wrongs() {
		want, length := none, k+2
		if !isUpTo(mostPower, k) {
			want, length = rangeAt(0), 0
		}
		list, f := bern.Sums(k)
		if f != want || len(list) != length {
			t.Errorf("Sums(%d): %q, %v, want %v", k, list, f, want)
		}
		outcomes[f]++
	}
	if len(outcomes) != 2 {
		t.Errorf("not each outcome is met: %v", outcomes)
	}
}

// TestNoTwoAnswersOfSumsShareMemory: what is written over one, behind its length, too, is not to be seen in another one of the same or another k, of before or after.
func TestNoTwoAnswersOfSumsShareMemory(t *testing.T) {
	for k := range mostPower + 1 {
		before, _ := bern.Sums(k)
		other, _ := bern.Sums(mostPower - k)
		want, wantOther := slices.Clone(before), slices.Clone(other)
		list, _ := bern.Sums(k)
		for i := range list[:cap(list)] {
			list[:cap(list)][i] = "1/12345678"
		}
		after, _ := bern.Sums(k)
		if !slices.Equal(before, want) || !slices.Equal(after, want) || !slices.Equal(other, wantOther) {
			t.Fatalf("Sums(%d): %q, and after another answer was written over %q, %q; of %d %q, %q", k, want, before, after, mostPower-k, wantOther, other)
		}
	}
}
