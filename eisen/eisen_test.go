package eisen_test

import (
	"math"
	"slices"
	"testing"

	"arithmetica/api"
	"arithmetica/eisen"
)

// These are chosen numbers, with answers that are written out. The tests of package ring hold numbers of all kinds against long ones and against trying all, and hold the faults and the law, together with those of Gauss's numbers.

const most = api.MaxPart

var (
	none = api.Fault{}
	zero = api.Pair{}
)

func faultOf(code, at int) api.Fault { return api.Fault{Code: code, At: at} }

func pair(a, b int) api.Pair { return api.Pair{A: a, B: b} }

func power(a, b, times int) api.PairPower { return api.PairPower{Prime: pair(a, b), Times: times} }

func opposite(x api.Pair) api.Pair { return pair(-x.A, -x.B) }

func TestNormOfChosenNumbers(t *testing.T) {
	for x, want := range map[api.Pair]int{
		{A: 5, B: 2}: 19, {}: 0, {A: 1}: 1, {A: 1, B: 1}: 1, {B: 1}: 1, {A: 1, B: -1}: 3, {A: 2, B: 1}: 3, {A: 2}: 4, {A: -3, B: 4}: 37,
		{A: most, B: most}: 250000000000000000, {A: most, B: -most}: 750000000000000000, {A: -most, B: most}: 750000000000000000, {B: -most}: 250000000000000000,
	} {
		if got, f := eisen.Norm(x); got != want || f != none {
			t.Errorf("Norm(%v): %d, %v, want %d", x, got, f, want)
		}
	}
}

// TestUnitsArePowers: of 1 + w, in the chapter's order, and each of them times a number.
func TestUnitsArePowers(t *testing.T) {
	unit := pair(1, 0)
	for turns, want := range []struct{ unit, product api.Pair }{
		{pair(1, 0), pair(5, 2)},
		{pair(1, 1), pair(3, 5)},
		{pair(0, 1), pair(-2, 3)},
		{pair(-1, 0), pair(-5, -2)},
		{pair(-1, -1), pair(-3, -5)},
		{pair(0, -1), pair(2, -3)},
	} {
		if unit != want.unit {
			t.Errorf("1 + w to the power of %d: %v, want %v", turns, unit, want.unit)
		}
		if got, f := eisen.Mul(unit, pair(5, 2)); got != want.product || f != none {
			t.Errorf("Mul(%v, 5 + 2 w): %v, %v, want %v", unit, got, f, want.product)
		}
		unit, _ = eisen.Mul(unit, pair(1, 1))
	}
	if unit != pair(1, 0) {
		t.Errorf("1 + w to the power of 6: %v", unit)
	}
}

// checkMul tries a product of each sign: with a fault, it is empty.
func checkMul(t *testing.T, x, y, want api.Pair, wantFault api.Fault) {
	t.Helper()
	for _, c := range []struct{ x, y, want api.Pair }{
		{x, y, want}, {y, x, want}, {opposite(x), opposite(y), want}, {opposite(x), y, opposite(want)}, {x, opposite(y), opposite(want)},
	} {
		if got, f := eisen.Mul(c.x, c.y); got != c.want || f != wantFault {
			t.Errorf("Mul(%v, %v): %v, %v, want %v, %v", c.x, c.y, got, f, c.want, wantFault)
		}
	}
}

// TestMulAtTheBound: a product just at MaxPart, and just beyond it, in each part and of each sign.
func TestMulAtTheBound(t *testing.T) {
	for _, c := range []struct{ x, y, want api.Pair }{
		{pair(0, 1), pair(0, 1), pair(-1, -1)},
		{pair(2, 0), pair(250000000, 7), pair(most, 14)},
		{pair(2, 0), pair(7, 250000000), pair(14, most)},
		{pair(1, 1), pair(250000000, -250000000), pair(most, 250000000)},
		{pair(0, 1), pair(250000000, -250000000), pair(250000000, most)},
		{pair(1, 1), pair(most, 0), pair(most, most)},
		{pair(1, 1), pair(most, most), pair(0, most)},
		{pair(most, -most), pair(1, 0), pair(most, -most)},
		{pair(2, 1), pair(200000000, -100000000), pair(most, 100000000)},
		{pair(2, 1), pair(0, most), pair(-most, most)},
		{pair(10000, -10000), pair(20000, -15000), pair(50000000, -most)},
	} {
		checkMul(t, c.x, c.y, c.want, none)
	}
	for _, c := range []struct{ x, y api.Pair }{
		{pair(3, 0), pair(166666667, 7)},          // 500000001 + 21 w
		{pair(3, 0), pair(7, 166666667)},          // 21 + 500000001 w
		{pair(1, 1), pair(250000000, -250000001)}, // 500000001 + 250000000 w
		{pair(0, 1), pair(250000001, -250000000)}, // 250000000 + 500000001 w
		{pair(1, 1), pair(most, -1)},              // 500000001 + 500000000 w
		{pair(1, 1), pair(1, -most)},              // 500000001 + w
		{pair(0, 1), pair(1, -most)},              // 500000000 + 500000001 w
		{pair(most, -most), pair(-most, most)},    // 750000000000000000 w
		{pair(most, most), pair(most, -most)},     // 500000000000000000 + 250000000000000000 w
		{pair(most, 0), pair(most, 0)},
		{pair(0, most), pair(0, most)},
		{pair(most, 0), pair(2, 0)},
	} {
		checkMul(t, c.x, c.y, zero, faultOf(api.ErrMuch, 0))
	}
}

// TestDivOfChosenNumbers: P7.1. The exact quotient's parts lie in the middle between two whole numbers, or as near to it as they can, or are whole; they may be beyond MaxPart.
func TestDivOfChosenNumbers(t *testing.T) {
	for _, c := range []struct{ x, y, q, r api.Pair }{
		{pair(7, 0), pair(2, 0), pair(4, 0), pair(-1, 0)},
		{pair(-7, 0), pair(2, 0), pair(-3, 0), pair(-1, 0)},
		{pair(7, 0), pair(-2, 0), pair(-3, 0), pair(1, 0)},
		{pair(0, 7), pair(2, 0), pair(0, 4), pair(0, -1)},
		{pair(0, -7), pair(2, 0), pair(0, -3), pair(0, -1)},
		{pair(1, 1), pair(2, 0), pair(1, 1), pair(-1, -1)},
		{pair(-1, -1), pair(2, 0), zero, pair(-1, -1)},
		{pair(1, -1), pair(2, 0), pair(1, 0), pair(-1, -1)},
		{pair(-1, 1), pair(2, 0), pair(0, 1), pair(-1, -1)},
		{pair(5, 2), pair(2, 2), pair(1, -1), pair(1, 0)},   // 1 - 3/2 w
		{pair(-5, -2), pair(2, 2), pair(-1, 2), pair(1, 0)}, // -1 + 3/2 w
		{pair(3, 0), pair(2, 4), pair(0, -1), pair(-1, -2)}, // -1/2 - w
		{pair(0, 1), pair(2, 1), pair(0, 1), pair(1, 0)},    // 1/3 + 2/3 w
		{pair(most, 1), pair(most, 0), pair(1, 0), pair(0, 1)},
		{pair(249999999, 0), pair(most, 0), zero, pair(249999999, 0)},
		{pair(0, -249999999), pair(0, most), zero, pair(0, -249999999)},
		{pair(250000000, -250000000), pair(most, 0), pair(1, 0), pair(-250000000, -250000000)},
		{pair(250000000, 249999999), pair(499999999, 0), pair(1, 0), pair(-249999999, 249999999)},
		{pair(-250000000, -249999999), pair(499999999, 0), pair(-1, 0), pair(249999999, -249999999)},
		{pair(-250000001, -250000000), pair(most, 0), pair(-1, 0), pair(249999999, -250000000)},
		{pair(most, most), pair(-most, most), pair(0, -1), pair(0, -most)},
		{pair(7, 0), pair(3, 1), pair(2, -1), zero},
		{pair(3, 0), pair(2, 1), pair(1, -1), zero},
		{zero, pair(most, -most), zero, zero},
		{pair(most, most), pair(most, most), pair(1, 0), zero},
		{pair(most, -most), pair(most, most), pair(-1, -2), zero},
		{pair(most, -most), pair(-1, 0), pair(-most, most), zero},
		{pair(most, -most), pair(1, 1), pair(-most, -2*most), zero},
		{pair(most, -most), pair(0, -1), pair(2*most, most), zero},
	} {
		if q, r, f := eisen.Div(c.x, c.y); q != c.q || r != c.r || f != none {
			t.Errorf("Div(%v, %v): %v, %v, %v, want %v, %v", c.x, c.y, q, r, f, c.q, c.r)
		}
	}
}

// TestGcdOfChosenNumbers: the chief may have parts beyond MaxPart.
func TestGcdOfChosenNumbers(t *testing.T) {
	for _, c := range []struct{ x, y, want api.Pair }{
		{pair(7, 0), pair(3, 1), pair(3, 1)},
		{zero, zero, zero},
		{pair(1, 0), zero, pair(1, 0)},
		{pair(-3, 4), zero, pair(7, 3)},
		{zero, pair(-5, -2), pair(5, 2)},
		{zero, pair(0, -7), pair(7, 0)},
		{pair(7, 7), zero, pair(7, 0)},
		{pair(most, -most), zero, pair(2*most, most)},
		{zero, pair(-most, 0), pair(most, 0)},
		{pair(0, 1), pair(-1, -1), pair(1, 0)},
		{pair(0, -1), pair(most, most), pair(1, 0)},
		{pair(most, -most), pair(-most, most), pair(2*most, most)},
		{pair(most, -most), pair(most, most), pair(most, 0)},
		{pair(most, 0), pair(most-1, 0), pair(1, 0)},
		{pair(3, 0), pair(-1, 1), pair(2, 1)},
		{pair(1, -1), pair(2, 1), pair(2, 1)},
		{pair(2, 0), pair(2, 1), pair(1, 0)},
		{pair(13, 9), pair(-12, -1), pair(5, 2)}, // (5 + 2 w) (3 + w) and (5 + 2 w) (3 + 2 w) w
	} {
		if got, f := eisen.Gcd(c.x, c.y); got != c.want || f != none {
			t.Errorf("Gcd(%v, %v): %v, %v, want %v", c.x, c.y, got, f, c.want)
		}
	}
}

// TestFactorOfChosenNumbers: P7.2. Of one norm and one A, B tells the order.
func TestFactorOfChosenNumbers(t *testing.T) {
	for _, c := range []struct {
		x     api.Pair
		turns int
		want  []api.PairPower
	}{
		{pair(3, 0), 5, []api.PairPower{power(2, 1, 2)}},
		{pair(1, 0), 0, nil},
		{pair(1, 1), 1, nil},
		{pair(0, 1), 2, nil},
		{pair(-1, 0), 3, nil},
		{pair(-1, -1), 4, nil},
		{pair(0, -1), 5, nil},
		{pair(2, 1), 0, []api.PairPower{power(2, 1, 1)}},
		{pair(-2, -1), 3, []api.PairPower{power(2, 1, 1)}},
		{pair(1, -1), 5, []api.PairPower{power(2, 1, 1)}},
		{pair(2, 0), 0, []api.PairPower{power(2, 0, 1)}},
		{pair(2, 2), 1, []api.PairPower{power(2, 0, 1)}},
		{pair(-5, 0), 3, []api.PairPower{power(5, 0, 1)}},
		{pair(0, -25), 5, []api.PairPower{power(5, 0, 2)}},
		{pair(5, 2), 0, []api.PairPower{power(5, 2, 1)}},
		{pair(-5, -2), 3, []api.PairPower{power(5, 2, 1)}},
		{pair(7, 0), 5, []api.PairPower{power(3, 1, 1), power(3, 2, 1)}},
		{pair(14, 0), 5, []api.PairPower{power(2, 0, 1), power(3, 1, 1), power(3, 2, 1)}},
		{pair(21, 0), 4, []api.PairPower{power(2, 1, 2), power(3, 1, 1), power(3, 2, 1)}},
		{pair(91, 0), 4, []api.PairPower{power(3, 1, 1), power(3, 2, 1), power(4, 1, 1), power(4, 3, 1)}},
		{pair(77, 0), 5, []api.PairPower{power(3, 1, 1), power(3, 2, 1), power(11, 0, 1)}},
		{pair(6, 9), 0, []api.PairPower{power(2, 1, 2), power(3, 1, 1)}},
		{pair(1<<28, 1<<28), 1, []api.PairPower{power(2, 0, 28)}},
		{pair(244140625, 0), 0, []api.PairPower{power(5, 0, 12)}},
		{pair(282475249, 0), 2, []api.PairPower{power(3, 1, 10), power(3, 2, 10)}},
		{pair(387420489, -387420489), 5, []api.PairPower{power(2, 1, 37)}},
		{pair(most, 0), 0, []api.PairPower{power(2, 0, 8), power(5, 0, 9)}},
		{pair(most, -most), 5, []api.PairPower{power(2, 1, 1), power(2, 0, 8), power(5, 0, 9)}},
		{pair(-most, most), 2, []api.PairPower{power(2, 1, 1), power(2, 0, 8), power(5, 0, 9)}},
	} {
		if turns, l, f := eisen.Factor(c.x); turns != c.turns || !slices.Equal(l, c.want) || f != none {
			t.Errorf("Factor(%v): %d, %v, %v, want %d, %v", c.x, turns, l, f, c.turns, c.want)
		}
	}
}

// TestCubicOfChosenNumbers: P7.3, also with x beyond p, with p that is no chief, and with 2, whose norm is 4.
func TestCubicOfChosenNumbers(t *testing.T) {
	for _, c := range []struct {
		x, p api.Pair
		want int
	}{
		{pair(1, 0), pair(3, 1), 0},
		{pair(-1, 0), pair(3, 1), 0},
		{pair(2, 0), pair(3, 1), 1},
		{pair(0, 1), pair(3, 1), 2},
		{pair(23, 0), pair(3, 1), 1},
		{pair(most, -most), pair(3, 1), 1},
		{pair(2, 0), pair(-3, -1), 1},
		{pair(2, 0), pair(3, 2), 2},
		{pair(2, 0), pair(-1, 2), 1},
		{pair(1, 0), pair(2, 0), 0},
		{pair(3, 0), pair(2, 0), 0},
		{pair(0, 1), pair(2, 0), 1},
		{pair(2, 1), pair(2, 0), 1},
		{pair(1, 1), pair(2, 0), 2},
		{pair(-1, -1), pair(-2, 0), 2},
		{pair(0, 1), pair(-2, -2), 1},
		{pair(0, 1), pair(0, 2), 1},
		{pair(3, 0), pair(5, 0), 0},
		{pair(2, 1), pair(5, 0), 2},
		{pair(2, 1), pair(-5, 0), 2},
		{pair(0, 1), pair(17, 0), 0},
		{pair(2, 0), pair(5, 2), 1},
		{pair(most, most), pair(5, 2), 2},
	} {
		if got, f := eisen.Cubic(c.x, c.p); got != c.want || f != none {
			t.Errorf("Cubic(%v, %v): %d, %v, want %d", c.x, c.p, got, f, c.want)
		}
	}
}

// TestFaultsOfChosenNumbers: each fault of the chapter, the first that applies.
func TestFaultsOfChosenNumbers(t *testing.T) {
	beyond := []api.Pair{pair(most+1, 0), pair(0, most+1), pair(-most-1, 0), pair(0, -most-1), pair(math.MinInt, math.MaxInt)}
	for _, x := range beyond {
		if got, f := eisen.Norm(x); got != 0 || f != faultOf(api.ErrRange, 0) {
			t.Errorf("Norm(%v): %d, %v", x, got, f)
		}
		if turns, l, f := eisen.Factor(x); turns != 0 || len(l) != 0 || f != faultOf(api.ErrRange, 0) {
			t.Errorf("Factor(%v): %d, %v, %v", x, turns, l, f)
		}
		for at, c := range []struct{ x, y api.Pair }{{x, x}, {zero, x}} {
			product, f1 := eisen.Mul(c.x, c.y)
			q, r, f2 := eisen.Div(c.x, c.y)
			g, f3 := eisen.Gcd(c.x, c.y)
			k, f4 := eisen.Cubic(c.x, c.y)
			want := faultOf(api.ErrRange, at)
			if product != zero || q != zero || r != zero || g != zero || k != 0 || f1 != want || f2 != want || f3 != want || f4 != want {
				t.Errorf("of %v and %v: %v, %v, %v, %v, want %v", c.x, c.y, f1, f2, f3, f4, want)
			}
		}
	}
	if q, r, f := eisen.Div(pair(5, 2), zero); q != zero || r != zero || f != faultOf(api.ErrZero, 1) {
		t.Errorf("Div(5 + 2 w, 0): %v, %v, %v", q, r, f)
	}
	if turns, l, f := eisen.Factor(zero); turns != 0 || len(l) != 0 || f != faultOf(api.ErrZero, 0) {
		t.Errorf("Factor(0): %d, %v, %v", turns, l, f)
	}
	for _, c := range []struct {
		x, p api.Pair
		want api.Fault
	}{
		{pair(2, 0), zero, faultOf(api.ErrKind, 1)},
		{pair(2, 0), pair(1, 1), faultOf(api.ErrKind, 1)},
		{pair(2, 0), pair(2, 1), faultOf(api.ErrKind, 1)},
		{zero, pair(1, -1), faultOf(api.ErrKind, 1)},
		{pair(2, 0), pair(3, 0), faultOf(api.ErrKind, 1)},
		{pair(2, 0), pair(4, 0), faultOf(api.ErrKind, 1)},
		{pair(2, 0), pair(7, 0), faultOf(api.ErrKind, 1)},
		{pair(2, 0), pair(6, 3), faultOf(api.ErrKind, 1)},
		{pair(2, 0), pair(8, 3), faultOf(api.ErrKind, 1)},
		{zero, pair(3, 1), faultOf(api.ErrZero, 0)},
		{pair(7, 0), pair(3, 1), faultOf(api.ErrZero, 0)},
		{pair(0, 6), pair(2, 0), faultOf(api.ErrZero, 0)},
		{pair(most, -most), pair(-5, -5), faultOf(api.ErrZero, 0)},
	} {
		if k, f := eisen.Cubic(c.x, c.p); k != 0 || f != c.want {
			t.Errorf("Cubic(%v, %v): %d, %v, want %v", c.x, c.p, k, f, c.want)
		}
	}
}
