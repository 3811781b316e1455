package long_test

import (
	"math"
	"math/big"
	"testing"

	"arithmetica/long"
	"arithmetica/sample"
)

// signs is a number of either sign, and what it must be.
type signs struct {
	number long.Signed
	want   *big.Int
}

func signedOf(n int) signs { return signs{long.SignedOf(n), big.NewInt(int64(n))} }

func (x signs) negative() signs { return signs{x.number.Negative(), new(big.Int).Neg(x.want)} }

func (x signs) plus(y signs) signs {
	return signs{x.number.Plus(y.number), new(big.Int).Add(x.want, y.want)}
}

func (x signs) minus(y signs) signs {
	return signs{x.number.Minus(y.number), new(big.Int).Sub(x.want, y.want)}
}

func (x signs) product(y signs) signs {
	return signs{x.number.Product(y.number), new(big.Int).Mul(x.want, y.want)}
}

func (x signs) check(t *testing.T) {
	t.Helper()
	if x.number.String() != x.want.String() || x.number.Sign() != x.want.Sign() {
		t.Fatalf("%s, of the sign %d, want %s", x.number, x.number.Sign(), x.want)
	}
	if size := x.number.Size().String(); size != new(big.Int).Abs(x.want).String() {
		t.Fatalf("the size of %s: %s", x.want, size)
	}
}

// checkDivide holds Divide against its own sentence.
func (x signs) checkDivide(t *testing.T, y signs) {
	t.Helper()
	q, r := x.number.Divide(y.number)
	quotient, rest := new(big.Int).QuoRem(x.want, y.want, new(big.Int))
	if rest.Sign() != 0 && rest.Sign() != y.want.Sign() {
		quotient.Sub(quotient, big.NewInt(1))
		rest.Add(rest, y.want)
	}
	signs{q, quotient}.check(t)
	signs{r, rest}.check(t)
}

// signedOnes are numbers of both signs, from 0 to some of many limbs.
func signedOnes(many int) []signs {
	list := []signs{{}, signedOf(math.MaxInt), signedOf(-math.MaxInt)}
	list[0].want = new(big.Int)
	for n := -10; n <= 10; n++ {
		list = append(list, signedOf(n))
	}
	numbers := sample.Numbers(many)
	for i, n := range numbers {
		list = append(list, signedOf(n), signedOf(n).product(signedOf(numbers[len(numbers)-1-i])))
	}
	return list
}

func TestSignedNumbersAreReckonedAsLongNumbers(t *testing.T) {
	list := signedOnes(120)
	for _, x := range list {
		x.check(t)
		x.negative().check(t)
		x.negative().negative().check(t)
		for _, y := range list {
			x.plus(y).check(t)
			x.minus(y).check(t)
			x.product(y).check(t)
			x.plus(y).minus(x).minus(y).check(t)
			x.minus(y).plus(y.negative()).check(t)
		}
	}
}

func TestSignedQuotientsAreRoundedDown(t *testing.T) {
	list := signedOnes(120)
	for _, x := range list {
		for _, y := range list {
			if y.want.Sign() == 0 {
				continue
			}
			x.checkDivide(t, y)
			x.product(y).checkDivide(t, y)
			x.product(y).minus(signedOf(1)).checkDivide(t, y)
		}
	}
}
