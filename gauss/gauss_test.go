package gauss_test

import (
	"slices"
	"testing"

	"arithmetica/api"
	"arithmetica/gauss"
)

// These are chosen numbers, with answers that are written out. The tests of package ring hold numbers of all kinds against long ones and against trying all, and hold the faults and the law, together with those of Eisenstein's numbers.

const most = api.MaxPart

var (
	none = api.Fault{}
	zero = api.Pair{}
)

func faultOf(code, at int) api.Fault { return api.Fault{Code: code, At: at} }

func pair(a, b int) api.Pair { return api.Pair{A: a, B: b} }

func power(a, b, times int) api.PairPower { return api.PairPower{Prime: pair(a, b), Times: times} }

// turned answers x times i to the power of turns.
func turned(x api.Pair, turns int) api.Pair {
	for range turns {
		x = pair(-x.B, x.A)
	}
	return x
}

func TestNormIsTheSumOfTheSquares(t *testing.T) {
	for x, want := range map[api.Pair]int{
		{}: 0, {A: 1}: 1, {B: -1}: 1, {A: 1, B: 1}: 2, {A: -3, B: 4}: 25, {A: most, B: most}: 500000000000000000, {A: -most, B: -most}: 500000000000000000, {B: -most}: 250000000000000000,
	} {
		if got, f := gauss.Norm(x); got != want || f != none {
			t.Errorf("Norm(%v): %d, %v, want %d", x, got, f, want)
		}
	}
}

// TestMulAtTheBound: a product just at MaxPart, and just beyond it, in each part and of each sign.
func TestMulAtTheBound(t *testing.T) {
	for _, c := range []struct {
		x, y, want api.Pair
	}{
		{pair(2, 0), pair(250000000, 7), pair(most, 14)},
		{pair(1, 1), pair(250000000, 250000000), pair(0, most)},
		{pair(1, 1), pair(most, 0), pair(most, most)},
		{pair(most, most), pair(1, 0), pair(most, most)},
		{pair(2, 1), pair(200000000, -100000000), pair(most, 0)},
		{pair(10000, 20000), pair(10000, -20000), pair(most, 0)},
		{pair(22360, 6), pair(22360, -172), pair(499970632, -3711760)},
	} {
		for turns := range 16 {
			x, y, want := turned(c.x, turns%4), turned(c.y, turns/4), turned(c.want, turns%4+turns/4)
			if got, f := gauss.Mul(x, y); got != want || f != none {
				t.Errorf("Mul(%v, %v): %v, %v, want %v", x, y, got, f, want)
			}
		}
	}
	for _, c := range []struct{ x, y api.Pair }{
		{pair(3, 0), pair(166666667, 7)},          // 500000001 + 21 i
		{pair(3, 0), pair(7, -166666667)},         // 21 - 500000001 i
		{pair(1, 1), pair(250000001, 250000000)},  // 1 + 500000001 i
		{pair(1, 1), pair(250000000, -250000001)}, // 500000001 - i
		{pair(1, 1), pair(most, 1)},               // 499999999 + 500000001 i
		{pair(1, 1), pair(most, -1)},              // 500000001 + 499999999 i
		{pair(1, 1), pair(most, -most)},           // 1000000000
		{pair(most, most), pair(most, most)},      // 500000000000000000 i
		{pair(most, -most), pair(most, most)},     // 500000000000000000
		{pair(most, 0), pair(most, 0)},
		{pair(most, 0), pair(2, 0)},
	} {
		for turns := range 16 {
			x, y := turned(c.x, turns%4), turned(c.y, turns/4)
			if got, f := gauss.Mul(x, y); got != zero || f != faultOf(api.ErrMuch, 0) {
				t.Errorf("Mul(%v, %v): %v, %v, want ErrMuch at 0", x, y, got, f)
			}
		}
	}
}

// TestDivNearTheMiddle: the exact quotient's parts lie in the middle between two whole numbers, or as near to it as they can.
func TestDivNearTheMiddle(t *testing.T) {
	for _, c := range []struct{ x, y, q, r api.Pair }{
		{pair(7, 0), pair(2, 0), pair(4, 0), pair(-1, 0)},
		{pair(-7, 0), pair(2, 0), pair(-3, 0), pair(-1, 0)},
		{pair(7, 0), pair(-2, 0), pair(-3, 0), pair(1, 0)},
		{pair(0, 7), pair(2, 0), pair(0, 4), pair(0, -1)},
		{pair(0, -7), pair(2, 0), pair(0, -3), pair(0, -1)},
		{pair(1, -1), pair(2, 0), pair(1, 0), pair(-1, -1)},
		{pair(-1, 1), pair(2, 0), pair(0, 1), pair(-1, -1)},
		{pair(1, 0), pair(1, 1), pair(1, 0), pair(0, -1)},
		{pair(0, 1), pair(1, 1), pair(1, 1), pair(0, -1)},
		{pair(249999999, 0), pair(most, 0), pair(0, 0), pair(249999999, 0)},
		{pair(250000000, -250000000), pair(most, 0), pair(1, 0), pair(-250000000, -250000000)},
		{pair(250000000, 249999999), pair(499999999, 0), pair(1, 0), pair(-249999999, 249999999)},
		{pair(-250000000, -249999999), pair(499999999, 0), pair(-1, 0), pair(249999999, -249999999)},
		{pair(-250000001, -250000000), pair(most, 0), pair(-1, 0), pair(249999999, -250000000)},
		{pair(most-1, 1-most), pair(2, 0), pair(250000000, -249999999), pair(-1, -1)},
		{pair(most, most), pair(most, most), pair(1, 0), zero},
		{pair(most, most), pair(-most, most), pair(0, -1), zero},
		{pair(most, -most), pair(1, 1), pair(0, -most), zero},
		{pair(most, -most), pair(0, 1), pair(-most, -most), zero},
		{pair(-most, 5), pair(-1, 0), pair(most, -5), zero},
		{zero, pair(most, -most), zero, zero},
		{pair(5, 0), pair(2, 1), pair(2, -1), zero},
	} {
		if q, r, f := gauss.Div(c.x, c.y); q != c.q || r != c.r || f != none {
			t.Errorf("Div(%v, %v): %v, %v, %v, want %v, %v", c.x, c.y, q, r, f, c.q, c.r)
		}
	}
}

func TestGcdOfChosenNumbers(t *testing.T) {
	for _, c := range []struct{ x, y, want api.Pair }{
		{pair(6, 8), pair(5, 0), pair(2, 1)},
		{zero, zero, zero},
		{pair(1, 0), zero, pair(1, 0)},
		{pair(-3, 4), zero, pair(4, 3)},
		{zero, pair(-3, -4), pair(3, 4)},
		{zero, pair(0, -7), pair(7, 0)},
		{pair(most, -most), zero, pair(most, most)},
		{zero, pair(-most, 0), pair(most, 0)},
		{pair(0, 1), pair(0, -1), pair(1, 0)},
		{pair(0, -1), pair(most, most), pair(1, 0)},
		{pair(most, most), pair(-most, most), pair(most, most)},
		{pair(most, most), pair(0, most), pair(most, 0)},
		{pair(most, 0), pair(most-1, 0), pair(1, 0)},
		{pair(2, 0), pair(-1, -1), pair(1, 1)},
		{pair(1, 3), pair(3, 1), pair(1, 1)},
		{pair(-4, 7), pair(1, 8), pair(2, 3)},
	} {
		if got, f := gauss.Gcd(c.x, c.y); got != c.want || f != none {
			t.Errorf("Gcd(%v, %v): %v, %v, want %v", c.x, c.y, got, f, c.want)
		}
	}
}

func TestFactorOfChosenNumbers(t *testing.T) {
	for _, c := range []struct {
		x     api.Pair
		turns int
		want  []api.PairPower
	}{
		{pair(5, 0), 3, []api.PairPower{power(1, 2, 1), power(2, 1, 1)}},
		{pair(1, 0), 0, nil},
		{pair(0, 1), 1, nil},
		{pair(-1, 0), 2, nil},
		{pair(0, -1), 3, nil},
		{pair(1, 1), 0, []api.PairPower{power(1, 1, 1)}},
		{pair(1, -1), 3, []api.PairPower{power(1, 1, 1)}},
		{pair(2, 0), 3, []api.PairPower{power(1, 1, 2)}},
		{pair(-3, 0), 2, []api.PairPower{power(3, 0, 1)}},
		{pair(0, -9), 3, []api.PairPower{power(3, 0, 2)}},
		{pair(3, 4), 0, []api.PairPower{power(2, 1, 2)}},
		{pair(65, 0), 2, []api.PairPower{power(1, 2, 1), power(2, 1, 1), power(2, 3, 1), power(3, 2, 1)}},
		{pair(39, 0), 3, []api.PairPower{power(3, 0, 1), power(2, 3, 1), power(3, 2, 1)}},
		{pair(77, 0), 0, []api.PairPower{power(7, 0, 1), power(11, 0, 1)}},
		{pair(1<<28, 1<<28), 0, []api.PairPower{power(1, 1, 57)}},
		{pair(387420489, 0), 0, []api.PairPower{power(3, 0, 18)}},
		{pair(most, 0), 3, []api.PairPower{power(1, 1, 16), power(1, 2, 9), power(2, 1, 9)}},
		{pair(-most, most), 0, []api.PairPower{power(1, 1, 17), power(1, 2, 9), power(2, 1, 9)}},
	} {
		if turns, l, f := gauss.Factor(c.x); turns != c.turns || !slices.Equal(l, c.want) || f != none {
			t.Errorf("Factor(%v): %d, %v, %v, want %d, %v", c.x, turns, l, f, c.turns, c.want)
		}
	}
}

func TestQuarticOfChosenNumbers(t *testing.T) {
	for _, c := range []struct {
		x, p api.Pair
		want int
	}{
		{pair(3, 0), pair(2, 1), 1},
		{pair(1, 0), pair(2, 1), 0},
		{pair(0, 1), pair(2, 1), 1},
		{pair(-1, 0), pair(2, 1), 2},
		{pair(0, -1), pair(2, 1), 3},
		{pair(0, 1), pair(3, 0), 2},
		{pair(1, 1), pair(3, 0), 3},
		{pair(1, 1), pair(-3, 0), 3},
		{pair(1, -1), pair(0, 3), 1},
		{pair(2, 0), pair(7, 0), 0},
		{pair(0, 1), pair(7, 0), 0},
	} {
		if got, f := gauss.Quartic(c.x, c.p); got != c.want || f != none {
			t.Errorf("Quartic(%v, %v): %d, %v, want %d", c.x, c.p, got, f, c.want)
		}
	}
}
