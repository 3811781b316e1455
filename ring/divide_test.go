package ring_test

import (
	"math/big"
	"testing"

	"arithmetica/api"
	"arithmetica/sample"
)

func TestNormIsThatOfLongNumbers(t *testing.T) {
	each(t, func(t *testing.T, k kind) {
		for _, x := range append(within(20), sample.Pairs(1000)...) {
			if got, f := k.Norm(x); large(got).Cmp(k.longNorm(longOf(x))) != 0 || f != none {
				t.Errorf("Norm(%v): %d, %v", x, got, f)
			}
		}
	})
}

// checkMul holds one product against that of long numbers.
func checkMul(t *testing.T, k kind, x, y api.Pair) {
	t.Helper()
	want, fits := k.fits(x, y)
	wantFault := none
	if !fits {
		want, wantFault = zero, faultOf(api.ErrMuch, 0)
	}
	if got, f := k.Mul(x, y); got != want || f != wantFault {
		t.Fatalf("Mul(%v, %v): %v, %v, want %v, %v", x, y, got, f, want, wantFault)
	}
}

func TestMulIsThatOfLongNumbers(t *testing.T) {
	each(t, func(t *testing.T, k kind) {
		for _, list := range [][]api.Pair{within(8), sample.Pairs(200)} {
			for _, x := range list {
				for _, y := range list {
					checkMul(t, k, x, y)
				}
			}
		}
	})
}

// checkDiv holds P6.1 and P7.1 against long numbers.
func checkDiv(t *testing.T, k kind, x, y api.Pair) {
	t.Helper()
	q, r, f := k.Div(x, y)
	want := k.rounded(longOf(x), longOf(y))
	if f != none || !longOf(q).is(want) || !longOf(r).is(longOf(x).minus(k.times(want, longOf(y)))) {
		t.Fatalf("Div(%v, %v): %v, %v, %v", x, y, q, r, f)
	}
}

func TestDivRoundsTheExactQuotient(t *testing.T) {
	each(t, func(t *testing.T, k kind) {
		great := sample.Pairs(180)
		for _, lists := range [][2][]api.Pair{{within(12), within(6)}, {great, great}} {
			for _, x := range lists[0] {
				for _, y := range lists[1] {
					if y != zero {
						checkDiv(t, k, x, y)
					}
				}
			}
		}
	})
}

// TestDivNearTheMiddle: the exact quotient's parts lie in the middle between two whole numbers, or as near to it as they can.
func TestDivNearTheMiddle(t *testing.T) {
	each(t, func(t *testing.T, k kind) {
		for _, y := range sample.Pairs(250) {
			for _, m := range within(3) {
				// As m / 2 is the quotient, or one off in the last place of what is divided.
				half := k.times(longOf(y), longOf(m))
				half.a.Rsh(half.a, 1)
				half.b.Rsh(half.b, 1)
				for _, off := range within(1) {
					if x, fits := half.plus(longOf(off)).pair(); fits && isPair(x) && y != zero {
						checkDiv(t, k, x, y)
					}
				}
			}
		}
	})
}

// TestDivLeavesNothingWhereYDivides: the quotient is exact.
func TestDivLeavesNothingWhereYDivides(t *testing.T) {
	each(t, func(t *testing.T, k kind) {
		list := sample.Pairs(250)
		many := 0
		for _, q := range list {
			for _, y := range list {
				x, fits := k.fits(q, y)
				if !fits || y == zero {
					continue
				}
				many++
				if got, r, f := k.Div(x, y); got != q || r != zero || f != none {
					t.Errorf("Div(%v, %v): %v, %v, %v, want %v", x, y, got, r, f, q)
				}
			}
		}
		if many < 1000 {
			t.Errorf("only %d were tried", many)
		}
	})
}

// TestGcdByTryingAll: of the small numbers that divide both, it is the chief that all of them divide.
func TestGcdByTryingAll(t *testing.T) {
	each(t, func(t *testing.T, k kind) {
		list := within(4)
		divisors := map[api.Pair][]api.Pair{zero: list}
		for _, x := range list {
			for _, d := range within(8) { // no divisor of these has a greater part
				if x != zero && k.divides(d, x) {
					divisors[x] = append(divisors[x], d)
				}
			}
		}
		for _, x := range list {
			for _, y := range list {
				got, f := k.Gcd(x, y)
				if f != none || !k.isChief(got) && (got != zero || x != zero || y != zero) || !k.divides(got, x) || !k.divides(got, y) {
					t.Fatalf("Gcd(%v, %v): %v, %v", x, y, got, f)
				}
				for _, d := range divisors[x] {
					if k.divides(d, y) && !k.divides(d, got) {
						t.Fatalf("Gcd(%v, %v): %v, and %v does not divide it", x, y, got, d)
					}
				}
			}
		}
	})
}

// greatest answers what the norm of the greatest divisor is, of numbers that are not both 0: how many classes of numbers there are by all that x and y make together, which is the greatest number that divides what their rows of parts, and those of s x and s y, span two by two.
func (k kind) greatest(x, y long) *big.Int {
	across := k.times(x, k.mirrored(y))
	answer := new(big.Int)
	for _, n := range []*big.Int{k.longNorm(x), k.longNorm(y), across.a, across.b} {
		answer.GCD(nil, nil, answer, n.Abs(n))
	}
	return answer
}

// checkGcd holds Gcd against long numbers: a chief that divides both, with the norm of the greatest.
func checkGcd(t *testing.T, k kind, x, y api.Pair) {
	t.Helper()
	got, f := k.Gcd(x, y)
	isGreatest := k.longNorm(longOf(got)).Cmp(k.greatest(longOf(x), longOf(y))) == 0
	if f != none || !k.divides(got, x) || !k.divides(got, y) || !isGreatest || !k.isChief(got) && got != zero {
		t.Fatalf("Gcd(%v, %v): %v, %v", x, y, got, f)
	}
}

func TestGcdOfGreatNumbers(t *testing.T) {
	each(t, func(t *testing.T, k kind) {
		list := sample.Pairs(150)
		for i, x := range list {
			for j, y := range list {
				checkGcd(t, k, x, y)
				// Most pairs have hardly a divisor in common; these have a third.
				third := list[(i+7*j)%len(list)]
				one, fitsOne := k.fits(x, third)
				other, fitsOther := k.fits(y, third)
				if fitsOne && fitsOther {
					checkGcd(t, k, one, other)
				}
			}
		}
	})
}

// TestGcdIsTheSameOfAllTurns: no unit changes it, nor does the order.
func TestGcdIsTheSameOfAllTurns(t *testing.T) {
	each(t, func(t *testing.T, k kind) {
		list := sample.Pairs(100)
		for _, x := range list {
			for _, y := range list {
				want, _ := k.Gcd(x, y)
				for _, left := range k.turns(y) {
					for _, right := range k.turns(x) {
						if got, f := k.Gcd(left, right); got != want || f != none {
							t.Fatalf("Gcd(%v, %v) is %v, but Gcd(%v, %v): %v, %v", x, y, want, left, right, got, f)
						}
					}
				}
			}
		}
	})
}
