package equation_test

import (
	"testing"

	"arithmetica/api"
	"arithmetica/equation"
	"arithmetica/sample"
)

func checkLinear(t *testing.T, a, b, c, wantX, wantY int, want api.Fault) {
	t.Helper()
	if x, y, f := equation.Linear(a, b, c); x != wantX || y != wantY || f != want {
		t.Fatalf("Linear(%d, %d, %d): %d, %d, %v, want %d, %d, %v", a, b, c, x, y, f, wantX, wantY, want)
	}
}

// triedLinear tries all x that can be the least one, for b that is not 0: where x fits, it fits less the size of b, too.
func triedLinear(a, b, c int) (x, y int, f api.Fault) {
	for x := range size(b) {
		if (c-a*x)%b == 0 {
			return x, (c - a*x) / b, none
		}
	}
	return 0, 0, faultOf(api.ErrNone, 0)
}

// TestLinearByTryingAllX: P16.1 with small a, b, c of both signs.
func TestLinearByTryingAllX(t *testing.T) {
	const most = 20
	for a := -most; a <= most; a++ {
		for b := -most; b <= most; b++ {
			for c := -most; c <= most; c++ {
				if b == 0 {
					checkLinear(t, a, b, c, 0, 0, faultOf(api.ErrZero, 1))
					continue
				}
				x, y, f := triedLinear(a, b, c)
				checkLinear(t, a, b, c, x, y, f)
			}
		}
	}
}

// checkSolved holds Linear of a b that is not 0 against the equation, by numbers of any length, and answers whether there is an x. It is the least one, if it is below what two of them differ by at least.
func checkSolved(t *testing.T, a, b, c int) bool {
	t.Helper()
	g := gcd(a, b)
	if c%g != 0 {
		checkLinear(t, a, b, c, 0, 0, faultOf(api.ErrNone, 0))
		return false
	}
	x, y, f := equation.Linear(a, b, c)
	if f != none || x < 0 || x >= size(b)/g || sum(product(a, x), product(b, y)).Cmp(large(c)) != 0 {
		t.Fatalf("Linear(%d, %d, %d): %d, %d, %v", a, b, c, x, y, f)
	}
	return true
}

// TestLinearOfNumbersUpToTheBound: drawn ones of all lengths, as they come, and with a common divisor that divides c, or nearly so.
func TestLinearOfNumbersUpToTheBound(t *testing.T) {
	s := sample.NewStream()
	outcomes := map[bool]int{}
	for range 100000 {
		a, b, c := s.UpTo(billion), s.UpTo(billion), s.UpTo(billion)
		if b == 0 {
			continue
		}
		outcomes[checkSolved(t, a, b, c)]++
		g := 1 + s.Below(100000)
		a, b, c = a/g*g, b/g*g, c/g*g
		if b == 0 {
			continue
		}
		outcomes[checkSolved(t, a, b, c)]++
		outcomes[checkSolved(t, a, b, min(c+1, billion))]++
		outcomes[checkSolved(t, a, b, c/gcd(a, b)*gcd(a, b))]++
	}
	if outcomes[true] < 100000 || outcomes[false] < 50000 {
		t.Errorf("the outcomes are %v", outcomes)
	}
}

// TestLinearAtItsEdges: all a, b, c at the bounds and beside them, about 0, and near the half of the bounds.
func TestLinearAtItsEdges(t *testing.T) {
	var edges []int
	for _, n := range []int{0, 1, 2, 3, 5, 6, 10, 500000000, 499999993, 666666666, 999999929, 999999937, 999999998, 999999999, billion} {
		edges = append(edges, n, -n)
	}
	for _, a := range edges {
		for _, b := range edges {
			for _, c := range edges {
				if b == 0 {
					checkLinear(t, a, b, c, 0, 0, faultOf(api.ErrZero, 1))
					continue
				}
				checkSolved(t, a, b, c)
			}
		}
	}
}

func TestLinearOfChosenNumbers(t *testing.T) {
	for _, c := range []struct {
		a, b, c, x, y int
		want          api.Fault
	}{
		{6, 9, 3, 2, -1, none},
		{6, 9, 4, 0, 0, faultOf(5, 0)},
		{6, -9, 3, 2, 1, none},
		{-6, 9, 3, 1, 1, none},
		{-6, -9, 3, 1, -1, none},
		{6, 9, -3, 1, -1, none},
		{6, 9, 0, 0, 0, none},
		{0, 1, 0, 0, 0, none},
		{0, -1, 0, 0, 0, none},
		{0, 7, 21, 0, 3, none},
		{0, -7, 21, 0, -3, none},
		{0, 7, 20, 0, 0, faultOf(5, 0)},
		{5, 1, 3, 0, 3, none},
		{5, -1, 3, 0, -3, none},
		{0, 0, 0, 0, 0, faultOf(4, 1)},
		{1, 0, 5, 0, 0, faultOf(4, 1)},
		{2, 0, 5, 0, 0, faultOf(4, 1)},
		{billion, billion, billion, 0, 1, none},
		{billion, -billion, billion, 0, -1, none},
		{billion, billion, 1, 0, 0, faultOf(5, 0)},
		{999999999, billion, 1, 999999999, -999999998, none},
		{999999999, billion, -1, 1, -1, none},
		{-billion, 999999999, -billion, 1, 0, none},
		{-billion, 999999999, billion, 999999998, billion, none},
		{-999999999, -billion, billion, 0, -1, none},
		{1, billion, -1, 999999999, -1, none},
		{1, billion, -billion, 0, -1, none},
		{billion, 1, -billion, 0, -billion, none},
		{billion, 1, billion, 0, billion, none},
		{0, billion, -billion, 0, -1, none},
		{0, -billion, 0, 0, 0, none},
	} {
		checkLinear(t, c.a, c.b, c.c, c.x, c.y, c.want)
	}
}

// wantLinear is which fault P16.1 tells of a, b, c, but for ErrNone.
func wantLinear(a, b, c int) api.Fault {
	switch {
	case a < -billion || a > billion:
		return faultOf(api.ErrRange, 0)
	case b < -billion || b > billion:
		return faultOf(api.ErrRange, 1)
	case c < -billion || c > billion:
		return faultOf(api.ErrRange, 2)
	case b == 0:
		return faultOf(api.ErrZero, 1)
	}
	return none
}

// TestLinearTellsItsFaultsInOrder: each wrong number at each place beside each other, and nothing beside a fault.
func TestLinearTellsItsFaultsInOrder(t *testing.T) {
	outcomes := map[api.Fault]int{}
	for _, a := range wrongs() {
		for _, b := range wrongs() {
			for _, c := range wrongs() {
				want := wantLinear(a, b, c)
				outcomes[want]++
				if want == none {
					checkSolved(t, a, b, c)
					continue
				}
				checkLinear(t, a, b, c, 0, 0, want)
			}
		}
	}
	if len(outcomes) != 5 {
		t.Errorf("not each outcome is met: %v", outcomes)
	}
}
