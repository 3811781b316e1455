package long_test

import (
	"math"
	"math/big"
	"slices"
	"testing"

	"arithmetica/long"
	"arithmetica/sample"
)

// both is a number, and what it must be.
type both struct {
	number long.Number
	want   *big.Int
}

func of(n int) both { return both{long.Of(n), big.NewInt(int64(n))} }

func (x both) plus(y both) both {
	return both{x.number.Plus(y.number), new(big.Int).Add(x.want, y.want)}
}

func (x both) minus(y both) both {
	return both{x.number.Minus(y.number), new(big.Int).Sub(x.want, y.want)}
}

func (x both) times(n int) both {
	return both{x.number.Times(n), new(big.Int).Mul(x.want, big.NewInt(int64(n)))}
}

func (x both) product(y both) both {
	return both{x.number.Product(y.number), new(big.Int).Mul(x.want, y.want)}
}

func (x both) divide(y both) (quotient, rest both) {
	q, r := x.number.Divide(y.number)
	wantQ, wantR := new(big.Int).QuoRem(x.want, y.want, new(big.Int))
	return both{q, wantQ}, both{r, wantR}
}

func (x both) gcd(y both) both {
	return both{x.number.Gcd(y.number), new(big.Int).GCD(nil, nil, x.want, y.want)}
}

func (x both) check(t *testing.T) {
	t.Helper()
	if got := x.number.String(); got != x.want.String() {
		t.Fatalf("%s, want %s", got, x.want)
	}
	// A nought ahead is not written, but would be compared.
	if again := x.number.Times(1); x.number.Compare(again) != 0 || x.number.IsZero() != (x.want.Sign() == 0) {
		t.Fatalf("%s is not laid out as it must be", x.want)
	}
}

// starts are numbers around the places where a limb is full, and of all lengths.
func starts() []both {
	list := append(sample.Positive(60), 0, math.MaxInt)
	power := 1
	for range 18 {
		power *= 10
		list = append(list, power-1, power, power+1)
	}
	slices.Sort(list)
	var answer []both
	for _, n := range slices.Compact(list) {
		answer = append(answer, of(n))
	}
	return answer
}

func timesOf() []int {
	return []int{0, 1, 2, 7, 10, 1998, 1000000, 999999999, long.MostTimes}
}

// longOnes are numbers of up to so many limbs, each of which is a nought, full, about a half, or nearly so, so that the first limbs tell little of the others.
func longOnes(limbs, many int) []both {
	edges := []int{0, 0, 1, 2, 499999999, 500000000, 500000001, 999999998, 999999999, 999999999}
	choices := sample.Spread(many * (limbs + 1))
	var list []both
	for i := range many {
		x := of(0)
		own := choices[i*(limbs+1):]
		for _, choice := range own[1 : 2+(i%limbs)] {
			size := max(choice, -choice)
			limb := edges[size%len(edges)]
			if size%7 == 0 {
				limb = size % 1000000000
			}
			x = x.times(1000000000).plus(of(limb))
		}
		list = append(list, x)
	}
	return list
}

func TestOfIsWrittenInDecimal(t *testing.T) {
	for _, x := range starts() {
		x.check(t)
	}
	if got := (long.Number{}).String(); got != "0" {
		t.Errorf("the zero Number: %s", got)
	}
}

func TestIntsComeBackAsTheyWere(t *testing.T) {
	for _, x := range starts() {
		n := int(x.want.Int64())
		if got := x.number.Int(); got != n {
			t.Errorf("%d comes back as %d", n, got)
		}
		if got := long.SignedOf(n).Int(); got != n {
			t.Errorf("%d comes back as %d", n, got)
		}
		if got := long.SignedOf(-n).Int(); got != -n {
			t.Errorf("%d comes back as %d", -n, got)
		}
	}
}

func TestSumsAndProductsAreThoseOfLongNumbers(t *testing.T) {
	for _, x := range starts() {
		for _, y := range starts() {
			x.plus(y).check(t)
			x.product(y).check(t)
			x.product(x).product(y).check(t)
		}
		for _, n := range timesOf() {
			x.times(n).check(t)
			x.times(n).times(n).plus(x).check(t)
			x.plus(x.times(n)).check(t)
		}
	}
}

func TestSumsAndProductsThatGrowLong(t *testing.T) {
	for _, n := range timesOf() {
		before, last := of(1), of(999999999)
		for range 300 {
			before, last = last, last.times(n).plus(before)
			last.check(t)
		}
	}
}

func TestProductsAndDifferencesOfLongNumbers(t *testing.T) {
	list := append(longOnes(7, 150), starts()...)
	for _, x := range list {
		for _, y := range list {
			x.product(y).check(t)
			if order := x.number.Compare(y.number); order != x.want.Cmp(y.want) {
				t.Fatalf("Compare(%s, %s): %d", x.want, y.want, order)
			}
			if x.want.Cmp(y.want) >= 0 {
				x.minus(y).check(t)
			}
			x.plus(y).minus(y).check(t)
			x.plus(y).minus(x).check(t)
		}
	}
}

func checkDivide(t *testing.T, x, y both) {
	t.Helper()
	quotient, rest := x.divide(y)
	quotient.check(t)
	rest.check(t)
}

// TestQuotientsAndRests: with what leaves nothing, and what just misses it, too.
func TestQuotientsAndRests(t *testing.T) {
	list := append(longOnes(6, 170), starts()...)
	for _, x := range list {
		for _, y := range list {
			if y.want.Sign() == 0 {
				continue
			}
			checkDivide(t, x, y)
			product := x.product(y)
			checkDivide(t, product, y)
			checkDivide(t, product.plus(y).minus(of(1)), y)
			if product.want.Sign() > 0 {
				checkDivide(t, product.minus(of(1)), y)
			}
		}
	}
}

// TestQuotientsWhoseFirstEstimateIsTooHigh: a digit of which the first limbs tell 2 too much (Knuth), and 1 too much, and those that are full.
func TestQuotientsWhoseFirstEstimateIsTooHigh(t *testing.T) {
	const b = 1000000000
	limbs := func(list ...int) both {
		x := of(0)
		for _, limb := range list {
			x = x.times(b).plus(of(limb))
		}
		return x
	}
	for _, c := range []struct{ x, y both }{
		{limbs(b/2, 0, 0), limbs(b/2, b-1)},
		{limbs(b/2-1, b-1, 0), limbs(b/2, b-1)},
		{limbs(b/2, 0, b-2), limbs(b/2, b-1)},
		{limbs(b/2, b-2, b-1, b-1), limbs(b/2, b-1, b-1)},
		{limbs(b/2, 0, 0, 0), limbs(b/2, 0, 1)},
		{limbs(1, 0, 0, 0, 0), limbs(1, 0, 1)},
		{limbs(b-1, b-1, b-1, b-1), limbs(b-1, b-1)},
		{limbs(b-1, b-2, b-1, b-1), limbs(b-1, b-1)},
	} {
		checkDivide(t, c.x, c.y)
		checkDivide(t, c.x.minus(of(1)), c.y)
		checkDivide(t, c.x.plus(of(1)), c.y)
	}
}

func TestGreatestCommonDivisors(t *testing.T) {
	list := append(longOnes(5, 60), starts()...)
	for i, x := range list {
		for j, y := range list {
			x.gcd(y).check(t)
			common := list[(i+j)%len(list)]
			x.product(common).gcd(y.product(common)).check(t)
		}
	}
}

// TestNumbersAreLeftAsTheyAre: what two numbers are made of is no memory of a third one.
func TestNumbersAreLeftAsTheyAre(t *testing.T) {
	x, y := of(999999999999999999), of(1).times(999999999).times(7)
	sum, product, difference := x.plus(y), x.times(5), x.minus(y)
	long := x.product(y)
	quotient, rest := long.divide(sum)
	sum.times(3).plus(product)
	product.plus(sum).times(0)
	difference.product(rest).plus(of(1)).divide(quotient)
	rest.plus(long).gcd(difference)
	long.minus(rest).minus(quotient).plus(x)
	for _, n := range []both{x, y, sum, product, difference, long, quotient, rest} {
		n.check(t)
	}
}
