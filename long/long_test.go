package long_test

import (
	"math"
	"math/big"
	"slices"
	"testing"

	"arithmetica/long"
	"arithmetica/sample"
)

// both is a number, and what it must be.
type both struct {
	number long.Number
	want   *big.Int
}

func of(n int) both { return both{long.Of(n), big.NewInt(int64(n))} }

func (x both) plus(y both) both {
	return both{x.number.Plus(y.number), new(big.Int).Add(x.want, y.want)}
}

func (x both) times(n int) both {
	return both{x.number.Times(n), new(big.Int).Mul(x.want, big.NewInt(int64(n)))}
}

func (x both) check(t *testing.T) {
	t.Helper()
	if got := x.number.String(); got != x.want.String() {
		t.Fatalf("%s, want %s", got, x.want)
	}
}

// starts are numbers around the places where a limb is full, and of all lengths.
func starts() []both {
	list := append(sample.Positive(60), 0, math.MaxInt)
	power := 1
	for range 18 {
		power *= 10
		list = append(list, power-1, power, power+1)
	}
	slices.Sort(list)
	var answer []both
	for _, n := range slices.Compact(list) {
		answer = append(answer, of(n))
	}
	return answer
}

func timesOf() []int {
	return []int{0, 1, 2, 7, 10, 1998, 1000000, 999999999, long.MostTimes}
}

func TestOfIsWrittenInDecimal(t *testing.T) {
	for _, x := range starts() {
		x.check(t)
	}
	if got := (long.Number{}).String(); got != "0" {
		t.Errorf("the zero Number: %s", got)
	}
}

func TestSumsAndProductsAreThoseOfLongNumbers(t *testing.T) {
	for _, x := range starts() {
		for _, y := range starts() {
			x.plus(y).check(t)
		}
		for _, n := range timesOf() {
			x.times(n).check(t)
			x.times(n).times(n).plus(x).check(t)
			x.plus(x.times(n)).check(t)
		}
	}
}

func TestSumsAndProductsThatGrowLong(t *testing.T) {
	for _, n := range timesOf() {
		before, last := of(1), of(999999999)
		for range 300 {
			before, last = last, last.times(n).plus(before)
			last.check(t)
		}
	}
}

// TestNumbersAreLeftAsTheyAre: what two numbers are made of is no memory of a third one.
func TestNumbersAreLeftAsTheyAre(t *testing.T) {
	x, y := of(999999999999999999), of(1).times(999999999).times(7)
	sum, product := x.plus(y), x.times(5)
	sum.times(3).plus(product)
	product.plus(sum).times(0)
	for _, n := range []both{x, y, sum, product} {
		n.check(t)
	}
}
