package gauss_test

import (
	"math"
	"math/big"
	"testing"

	"arithmetica/api"
	"arithmetica/gauss"
	"arithmetica/sample"
)

// within answers all pairs whose parts are up to bound in size.
func within(bound int) []api.Pair {
	var list []api.Pair
	for a := -bound; a <= bound; a++ {
		for b := -bound; b <= bound; b++ {
			list = append(list, pair(a, b))
		}
	}
	return list
}

func TestNormIsTheSumOfTheSquares(t *testing.T) {
	for _, x := range append(within(20), sample.Pairs(1000)...) {
		if got, f := gauss.Norm(x); large(got).Cmp(longOf(x).norm()) != 0 || f != none {
			t.Errorf("Norm(%v): %d, %v", x, got, f)
		}
	}
	for x, want := range map[api.Pair]int{
		{}: 0, {A: 1}: 1, {B: -1}: 1, {A: 1, B: 1}: 2, {A: -3, B: 4}: 25, {A: most, B: most}: 500000000000000000, {A: -most, B: -most}: 500000000000000000, {B: -most}: 250000000000000000,
	} {
		if got, f := gauss.Norm(x); got != want || f != none {
			t.Errorf("Norm(%v): %d, %v, want %d", x, got, f, want)
		}
	}
}

// checkMul holds one product against that of long numbers.
func checkMul(t *testing.T, x, y api.Pair) {
	t.Helper()
	want, fits := longOf(x).times(longOf(y)).pair()
	wantFault := none
	if !fits || !isPair(want) {
		want, wantFault = zero, faultOf(api.ErrMuch, 0)
	}
	if got, f := gauss.Mul(x, y); got != want || f != wantFault {
		t.Fatalf("Mul(%v, %v): %v, %v, want %v, %v", x, y, got, f, want, wantFault)
	}
}

func TestMulIsThatOfLongNumbers(t *testing.T) {
	for _, x := range within(8) {
		for _, y := range within(8) {
			checkMul(t, x, y)
		}
	}
	list := sample.Pairs(200)
	for _, x := range list {
		for _, y := range list {
			checkMul(t, x, y)
		}
	}
}

// TestMulAtTheBound: a product just at MaxPart, and just beyond it, in each part and of each sign.
func TestMulAtTheBound(t *testing.T) {
	for _, c := range []struct {
		x, y, want api.Pair
	}{
		{pair(2, 0), pair(250000000, 7), pair(most, 14)},
		{pair(1, 1), pair(250000000, 250000000), pair(0, most)},
		{pair(1, 1), pair(most, 0), pair(most, most)},
		{pair(most, most), pair(1, 0), pair(most, most)},
		{pair(2, 1), pair(200000000, -100000000), pair(most, 0)},
		{pair(10000, 20000), pair(10000, -20000), pair(most, 0)},
		{pair(22360, 6), pair(22360, -172), pair(499970632, -3711760)},
	} {
		for turns := range 16 {
			x, y, want := turned(c.x, turns%4), turned(c.y, turns/4), turned(c.want, turns%4+turns/4)
			if got, f := gauss.Mul(x, y); got != want || f != none {
				t.Errorf("Mul(%v, %v): %v, %v, want %v", x, y, got, f, want)
			}
		}
	}
	for _, c := range []struct{ x, y api.Pair }{
		{pair(3, 0), pair(166666667, 7)},          // 500000001 + 21 i
		{pair(3, 0), pair(7, -166666667)},         // 21 - 500000001 i
		{pair(1, 1), pair(250000001, 250000000)},  // 1 + 500000001 i
		{pair(1, 1), pair(250000000, -250000001)}, // 500000001 - i
		{pair(1, 1), pair(most, 1)},               // 499999999 + 500000001 i
		{pair(1, 1), pair(most, -1)},              // 500000001 + 499999999 i
		{pair(1, 1), pair(most, -most)},           // 1000000000
		{pair(most, most), pair(most, most)},      // 500000000000000000 i
		{pair(most, -most), pair(most, most)},     // 500000000000000000
		{pair(most, 0), pair(most, 0)},
		{pair(most, 0), pair(2, 0)},
	} {
		for turns := range 16 {
			x, y := turned(c.x, turns%4), turned(c.y, turns/4)
			if got, f := gauss.Mul(x, y); got != zero || f != faultOf(api.ErrMuch, 0) {
				t.Errorf("Mul(%v, %v): %v, %v, want ErrMuch at 0", x, y, got, f)
			}
		}
	}
}

// checkDiv holds P6.1 against long numbers.
func checkDiv(t *testing.T, x, y api.Pair) {
	t.Helper()
	q, r, f := gauss.Div(x, y)
	want := longOf(x).rounded(longOf(y))
	if f != none || !longOf(q).is(want) || !longOf(x).is(want.times(longOf(y)).plus(longOf(r))) {
		t.Fatalf("Div(%v, %v): %v, %v, %v", x, y, q, r, f)
	}
}

func TestDivRoundsTheExactQuotient(t *testing.T) {
	for _, x := range within(15) {
		for _, y := range within(7) {
			if y != zero {
				checkDiv(t, x, y)
			}
		}
	}
	list := sample.Pairs(200)
	for _, x := range list {
		for _, y := range list {
			if y != zero {
				checkDiv(t, x, y)
			}
		}
	}
}

// TestDivNearTheMiddle: the exact quotient's parts lie in the middle between two whole numbers, or as near to it as they can.
func TestDivNearTheMiddle(t *testing.T) {
	for _, c := range []struct{ x, y, q, r api.Pair }{
		{pair(7, 0), pair(2, 0), pair(4, 0), pair(-1, 0)},
		{pair(-7, 0), pair(2, 0), pair(-3, 0), pair(-1, 0)},
		{pair(7, 0), pair(-2, 0), pair(-3, 0), pair(1, 0)},
		{pair(0, 7), pair(2, 0), pair(0, 4), pair(0, -1)},
		{pair(0, -7), pair(2, 0), pair(0, -3), pair(0, -1)},
		{pair(1, -1), pair(2, 0), pair(1, 0), pair(-1, -1)},
		{pair(-1, 1), pair(2, 0), pair(0, 1), pair(-1, -1)},
		{pair(1, 0), pair(1, 1), pair(1, 0), pair(0, -1)},
		{pair(0, 1), pair(1, 1), pair(1, 1), pair(0, -1)},
		{pair(249999999, 0), pair(most, 0), pair(0, 0), pair(249999999, 0)},
		{pair(250000000, -250000000), pair(most, 0), pair(1, 0), pair(-250000000, -250000000)},
		{pair(250000000, 249999999), pair(499999999, 0), pair(1, 0), pair(-249999999, 249999999)},
		{pair(-250000000, -249999999), pair(499999999, 0), pair(-1, 0), pair(249999999, -249999999)},
		{pair(-250000001, -250000000), pair(most, 0), pair(-1, 0), pair(249999999, -250000000)},
		{pair(most-1, 1-most), pair(2, 0), pair(250000000, -249999999), pair(-1, -1)},
		{pair(most, most), pair(most, most), pair(1, 0), zero},
		{pair(most, most), pair(-most, most), pair(0, -1), zero},
		{pair(most, -most), pair(1, 1), pair(0, -most), zero},
		{pair(most, -most), pair(0, 1), pair(-most, -most), zero},
		{pair(-most, 5), pair(-1, 0), pair(most, -5), zero},
		{zero, pair(most, -most), zero, zero},
		{pair(5, 0), pair(2, 1), pair(2, -1), zero},
	} {
		if q, r, f := gauss.Div(c.x, c.y); q != c.q || r != c.r || f != none {
			t.Errorf("Div(%v, %v): %v, %v, %v, want %v, %v", c.x, c.y, q, r, f, c.q, c.r)
		}
	}
	for _, y := range sample.Pairs(300) {
		for _, m := range within(3) {
			// As m / 2 is the quotient, or one off in the last place of what is divided.
			middle := longOf(y).times(longOf(m))
			half := long{middle.a.Rsh(middle.a, 1), middle.b.Rsh(middle.b, 1)}
			for _, off := range within(1) {
				if x, fits := half.plus(longOf(off)).pair(); fits && isPair(x) && y != zero {
					checkDiv(t, x, y)
				}
			}
		}
	}
}

// TestDivLeavesNothingWhereYDivides: the quotient is exact.
func TestDivLeavesNothingWhereYDivides(t *testing.T) {
	list := sample.Pairs(250)
	many := 0
	for _, q := range list {
		for _, y := range list {
			x, fits := longOf(q).times(longOf(y)).pair()
			if !fits || !isPair(x) || y == zero {
				continue
			}
			many++
			if got, r, f := gauss.Div(x, y); got != q || r != zero || f != none {
				t.Errorf("Div(%v, %v): %v, %v, %v, want %v", x, y, got, r, f, q)
			}
		}
	}
	if many < 1000 {
		t.Errorf("only %d were tried", many)
	}
}

// TestGcdByTryingAll: of the small numbers that divide both, it is the chief that all of them divide.
func TestGcdByTryingAll(t *testing.T) {
	list := within(5)
	divisors := map[api.Pair][]api.Pair{}
	for _, x := range list {
		for _, d := range within(7) { // no divisor of these has a greater part
			if divides(d, x) {
				divisors[x] = append(divisors[x], d)
			}
		}
	}
	divisors[zero] = list
	for _, x := range list {
		for _, y := range list {
			got, f := gauss.Gcd(x, y)
			if f != none || !isChief(got) && (got != zero || x != zero || y != zero) || !divides(got, x) || !divides(got, y) {
				t.Fatalf("Gcd(%v, %v): %v, %v", x, y, got, f)
			}
			for _, d := range divisors[x] {
				if divides(d, y) && !divides(d, got) {
					t.Fatalf("Gcd(%v, %v): %v, and %v does not divide it", x, y, got, d)
				}
			}
		}
	}
}

// minors answers what the norm of the greatest divisor is, of numbers that are not both 0: how many classes of numbers there are by all that x and y make together, which is the greatest number that divides what their rows of parts, and those of i x and i y, span two by two.
func minors(x, y api.Pair) *big.Int {
	across := longOf(x).times(longOf(pair(y.A, -y.B)))
	answer := new(big.Int)
	for _, n := range []*big.Int{longOf(x).norm(), longOf(y).norm(), across.a, across.b} {
		answer.GCD(nil, nil, answer, n.Abs(n))
	}
	return answer
}

// checkGcd holds Gcd against long numbers: a chief that divides both, with the norm of the greatest.
func checkGcd(t *testing.T, x, y api.Pair) {
	t.Helper()
	got, f := gauss.Gcd(x, y)
	if f != none || !divides(got, x) || !divides(got, y) || longOf(got).norm().Cmp(minors(x, y)) != 0 || !isChief(got) && got != zero {
		t.Fatalf("Gcd(%v, %v): %v, %v", x, y, got, f)
	}
}

func TestGcdOfGreatNumbers(t *testing.T) {
	list := sample.Pairs(150)
	for i, x := range list {
		for j, y := range list {
			checkGcd(t, x, y)
			// Most pairs have hardly a divisor in common; these have a third.
			third := list[(i+7*j)%len(list)]
			one, fitsOne := longOf(x).times(longOf(third)).pair()
			other, fitsOther := longOf(y).times(longOf(third)).pair()
			if fitsOne && fitsOther && isPair(one) && isPair(other) {
				checkGcd(t, one, other)
			}
		}
	}
}

func TestGcdOfChosenNumbers(t *testing.T) {
	for _, c := range []struct{ x, y, want api.Pair }{
		{pair(6, 8), pair(5, 0), pair(2, 1)},
		{zero, zero, zero},
		{pair(1, 0), zero, pair(1, 0)},
		{pair(-3, 4), zero, pair(4, 3)},
		{zero, pair(-3, -4), pair(3, 4)},
		{zero, pair(0, -7), pair(7, 0)},
		{pair(most, -most), zero, pair(most, most)},
		{zero, pair(-most, 0), pair(most, 0)},
		{pair(0, 1), pair(0, -1), pair(1, 0)},
		{pair(0, -1), pair(most, most), pair(1, 0)},
		{pair(most, most), pair(-most, most), pair(most, most)},
		{pair(most, most), pair(0, most), pair(most, 0)},
		{pair(most, 0), pair(most-1, 0), pair(1, 0)},
		{pair(2, 0), pair(-1, -1), pair(1, 1)},
		{pair(1, 3), pair(3, 1), pair(1, 1)},
		{pair(-4, 7), pair(1, 8), pair(2, 3)},
	} {
		if got, f := gauss.Gcd(c.x, c.y); got != c.want || f != none {
			t.Errorf("Gcd(%v, %v): %v, %v, want %v", c.x, c.y, got, f, c.want)
		}
	}
}

// TestGcdIsTheSameOfAllTurns: no unit changes it, nor does the order.
func TestGcdIsTheSameOfAllTurns(t *testing.T) {
	list := sample.Pairs(60)
	for _, x := range list {
		for _, y := range list {
			want, _ := gauss.Gcd(x, y)
			for turns := range 16 {
				if got, f := gauss.Gcd(turned(y, turns/4), turned(x, turns%4)); got != want || f != none {
					t.Fatalf("Gcd(%v, %v) is %v, but %v, %v after %d turns", x, y, want, got, f, turns)
				}
			}
		}
	}
}

// edges are pairs at which a check or a step may go wrong, those beyond the bound too.
func edges() []api.Pair {
	parts := []int{math.MinInt, -most - 1, -most, -3, -1, 0, 1, 2, 3, 5, most - 1, most, most + 1, math.MaxInt}
	var list []api.Pair
	for _, a := range parts {
		for _, b := range parts {
			list = append(list, pair(a, b))
		}
	}
	return list
}

// checkFaults tries a call on all edges: ErrRange at the first argument that is beyond the bound, then what the chapter says of the call, and with a fault nothing beside it.
func checkFaults(t *testing.T, name string, call func(x, y api.Pair) (empty bool, f api.Fault), then func(x, y api.Pair) api.Fault) {
	t.Helper()
	seen := map[api.Fault]bool{}
	for _, x := range edges() {
		for _, y := range edges() {
			var want api.Fault
			switch {
			case !isPair(x):
				want = faultOf(api.ErrRange, 0)
			case !isPair(y):
				want = faultOf(api.ErrRange, 1)
			default:
				want = then(x, y)
			}
			seen[want] = true
			if empty, f := call(x, y); f != want || f != none && !empty {
				t.Fatalf("%s(%v, %v): empty is %v, %v, want %v", name, x, y, empty, f, want)
			}
		}
	}
	if len(seen) < 3 || !seen[none] {
		t.Errorf("%s: only the faults %v were seen", name, seen)
	}
}

func TestFaultsOfMul(t *testing.T) {
	checkFaults(t, "Mul", func(x, y api.Pair) (bool, api.Fault) {
		product, f := gauss.Mul(x, y)
		return product == zero, f
	}, func(x, y api.Pair) api.Fault {
		if product, _ := longOf(x).times(longOf(y)).pair(); !isPair(product) {
			return faultOf(api.ErrMuch, 0)
		}
		return none
	})
}

func TestFaultsOfDiv(t *testing.T) {
	checkFaults(t, "Div", func(x, y api.Pair) (bool, api.Fault) {
		q, r, f := gauss.Div(x, y)
		return q == zero && r == zero, f
	}, func(x, y api.Pair) api.Fault {
		if y == zero {
			return faultOf(api.ErrZero, 1)
		}
		return none
	})
}

func TestFaultsOfGcd(t *testing.T) {
	checkFaults(t, "Gcd", func(x, y api.Pair) (bool, api.Fault) {
		g, f := gauss.Gcd(x, y)
		return g == zero, f
	}, func(x, y api.Pair) api.Fault { return none })
}

// TestFaultsOfNormAndFactor: ErrRange at 0, and of Factor ErrZero at 0.
func TestFaultsOfNormAndFactor(t *testing.T) {
	for _, x := range edges() {
		var want api.Fault
		if !isPair(x) {
			want = faultOf(api.ErrRange, 0)
		}
		if n, f := gauss.Norm(x); f != want || f != none && n != 0 {
			t.Errorf("Norm(%v): %d, %v, want %v", x, n, f, want)
		}
		if x == zero {
			want = faultOf(api.ErrZero, 0)
		}
		if turns, l, f := gauss.Factor(x); f != want || f != none && (turns != 0 || len(l) != 0) {
			t.Errorf("Factor(%v): %d, %v, %v, want %v", x, turns, l, f, want)
		}
	}
}
