package bern_test

import (
	"math/big"
	"sync"
	"testing"

	"arithmetica/api"
	"arithmetica/bern"
)

// numbers answers what Number answers of all n that it takes. Several calls run at the same time.
var numbers = sync.OnceValue(func() []string {
	list := make([]string, mostNumber+1)
	var workers sync.WaitGroup
	for start := range 8 {
		workers.Go(func() {
			for n := start; n <= mostNumber; n += 8 {
				list[n], _ = bern.Number(n)
			}
		})
	}
	workers.Wait()
	return list
})

func isPrime(n int) bool { return bigOf(n).ProbablyPrime(10) }

// TestNumberKeepsItsSum: the chapter's own sum, of each n that Number takes; it leaves only one fraction for each.
func TestNumberKeepsItsSum(t *testing.T) {
	list := []*big.Rat{}
	for n, text := range numbers() {
		list = append(list, fractionOf(t, text))
		sum := new(big.Rat)
		for j, number := range list {
			ways := new(big.Rat).SetInt(choose(n+1, j))
			sum.Add(sum, ways.Mul(ways, number))
		}
		want := new(big.Rat)
		if n == 0 {
			want.SetInt64(1)
		}
		if sum.Cmp(want) != 0 {
			t.Fatalf("with Number(%d), %s, the sum is %s, want %s", n, text, sum.RatString(), want.RatString())
		}
	}
}

// TestNumberByAkiyamaAndTanigawa: rows of fractions, from 1, 1/2, 1/3, .. on, of each of which the next one is made by differences, begin with Bernoulli's numbers, but for the sign of the second.
func TestNumberByAkiyamaAndTanigawa(t *testing.T) {
	row := []*big.Rat{}
	for i := range mostNumber + 1 {
		row = append(row, big.NewRat(1, int64(i+1)))
	}
	for n, text := range numbers() {
		want := new(big.Rat).Set(row[0])
		if n == 1 {
			want.Neg(want)
		}
		if text != want.RatString() {
			t.Fatalf("Number(%d): %q, want %s", n, text, want.RatString())
		}
		for i := range row[1:] {
			row[i].Sub(row[i], row[i+1])
			row[i].Mul(row[i], big.NewRat(int64(i+1), 1))
		}
		row = row[:len(row)-1]
	}
}

// TestNumberWithTheFractionsOfPrimesIsWhole: von Staudt's and Clausen's theorem; and so just these primes stand below.
func TestNumberWithTheFractionsOfPrimesIsWhole(t *testing.T) {
	for n := 2; n <= mostNumber; n += 2 {
		number := fractionOf(t, numbers()[n])
		sum, below := new(big.Rat).Set(number), big.NewInt(1)
		for p := 2; p <= n+1; p++ {
			if isPrime(p) && n%(p-1) == 0 {
				sum.Add(sum, big.NewRat(1, int64(p)))
				below.Mul(below, bigOf(p))
			}
		}
		if !sum.IsInt() || number.Denom().Cmp(below) != 0 {
			t.Errorf("Number(%d), %s, and the fractions of primes are %s", n, number.RatString(), sum.RatString())
		}
	}
}

func TestNumberOfOddNumbersIsZero(t *testing.T) {
	for n := 3; n <= mostNumber; n += 2 {
		if text := numbers()[n]; text != "0" {
			t.Errorf("Number(%d): %q", n, text)
		}
	}
}

func TestNumberOfChosenNumbers(t *testing.T) {
	for n, want := range map[int]string{
		0: "1", 1: "-1/2", 2: "1/6", 3: "0", 4: "-1/30", 5: "0", 6: "1/42", 8: "-1/30", 10: "5/66", 12: "-691/2730", 14: "7/6", 16: "-3617/510", 18: "43867/798", 20: "-174611/330", 22: "854513/138",
		30: "8615841276005/14322", 60: "-1215233140483755572040304994079820246041491/56786730", 199: "0",
		200: "-498384049428333414764928632140399662108495887457206674968055822617263669621523687568865802302210999132601412697613279391058654527145340515840099290478026350382802884371712359337984274122861159800280019110197888555893671151/1366530",
	} {
		if text, f := bern.Number(n); text != want || f != none {
			t.Errorf("Number(%d): %q, %v, want %s", n, text, f, want)
		}
	}
}

func TestNumberTellsItsFault(t *testing.T) {
	outcomes := map[api.Fault]int{}
	for _, n := range wrongs() {
		want := none
		if !isUpTo(mostNumber, n) {
			want = rangeAt(0)
		}
		text, f := bern.Number(n)
		if f != want || (f != none) != (text == "") {
			t.Errorf("Number(%d): %q, %v, want %v", n, text, f, want)
		}
		outcomes[f]++
	}
	if len(outcomes) != 2 {
		t.Errorf("not each outcome is met: %v", outcomes)
	}
}
