package equation_test

import (
	"testing"

	"arithmetica/api"
	"arithmetica/equation"
	"arithmetica/sample"
)

// isFree tells whether no prime's square divides n, which is not 0.
func isFree(n int) bool {
	for d := 2; d*d <= size(n); d++ {
		if n%(d*d) == 0 {
			return false
		}
	}
	return true
}

// areFree tells whether no prime's square divides a b c: none divides one of them, and no prime divides two.
func areFree(a, b, c int) bool {
	return isFree(a) && isFree(b) && isFree(c) && gcd(a, b) == 1 && gcd(a, c) == 1 && gcd(b, c) == 1
}

// leavesASquare tells whether n leaves what a square leaves, left by the size of m, by trying all.
func leavesASquare(n, m int) bool {
	for x := range size(m) {
		if (n-x*x)%m == 0 {
			return true
		}
	}
	return false
}

// byTheorem is Legendre's theorem, as chapter 16 tells it.
func byTheorem(a, b, c int) bool {
	if a > 0 && b > 0 && c > 0 || a < 0 && b < 0 && c < 0 {
		return false
	}
	return leavesASquare(-b*c, a) && leavesASquare(-a*c, b) && leavesASquare(-a*b, c)
}

// checkRoot holds Legendre against whether there are x, y, z, and puts what it answers into the equation, by numbers of any length.
func checkRoot(t *testing.T, a, b, c int, has bool) {
	t.Helper()
	x, y, z, f := equation.Legendre(a, b, c)
	if !has {
		if x != 0 || y != 0 || z != 0 || f != faultOf(api.ErrNone, 0) {
			t.Fatalf("Legendre(%d, %d, %d): %d, %d, %d, %v, want ErrNone at 0", a, b, c, x, y, z, f)
		}
		return
	}
	// The gcd of 0, 0 and 0 is 0.
	value := sum(product(a, x, x), product(b, y, y), product(c, z, z))
	if f != none || x < 0 || y < 0 || z < 0 || gcd(x, y, z) != 1 || value.Sign() != 0 {
		t.Fatalf("Legendre(%d, %d, %d): %d, %d, %d, %v", a, b, c, x, y, z, f)
	}
}

// hasSmallRoot tries all x, y, z up to most.
func hasSmallRoot(a, b, c, most int) bool {
	for x := range most + 1 {
		for y := range most + 1 {
			for z := range most + 1 {
				if x+y+z > 0 && a*x*x+b*y*y+c*z*z == 0 {
					return true
				}
			}
		}
	}
	return false
}

// TestLegendreOfAllSmallNumbers: P16.3, by trying small x, y, z, and by Legendre's theorem.
func TestLegendreOfAllSmallNumbers(t *testing.T) {
	const most = 22
	outcomes := map[bool]int{}
	for a := -most; a <= most; a++ {
		for b := -most; b <= most; b++ {
			for c := -most; c <= most; c++ {
				if a*b*c == 0 || !areFree(a, b, c) {
					continue
				}
				has := hasSmallRoot(a, b, c, most)
				if byTheorem(a, b, c) != has {
					t.Fatalf("%d, %d, %d: small x, y, z are there: %v, and Legendre's theorem tells otherwise", a, b, c, has)
				}
				checkRoot(t, a, b, c, has)
				outcomes[has]++
			}
		}
	}
	if outcomes[true] < 1000 || outcomes[false] < 1000 {
		t.Errorf("the outcomes are %v", outcomes)
	}
}

// checkByTheorem holds Legendre against Legendre's theorem, or against ErrForm, and answers what is to be told.
func checkByTheorem(t *testing.T, a, b, c int) api.Fault {
	t.Helper()
	if !areFree(a, b, c) {
		checkNoRoot(t, a, b, c, faultOf(api.ErrForm, 0))
		return faultOf(api.ErrForm, 0)
	}
	has := byTheorem(a, b, c)
	checkRoot(t, a, b, c, has)
	if !has {
		return faultOf(api.ErrNone, 0)
	}
	return none
}

func checkNoRoot(t *testing.T, a, b, c int, want api.Fault) {
	t.Helper()
	if x, y, z, f := equation.Legendre(a, b, c); x != 0 || y != 0 || z != 0 || f != want {
		t.Fatalf("Legendre(%d, %d, %d): %d, %d, %d, %v, want %v", a, b, c, x, y, z, f, want)
	}
}

// checkSigns holds Legendre of a, b, c with all signs against Legendre's theorem.
func checkSigns(t *testing.T, a, b, c int, outcomes map[api.Fault]int) {
	t.Helper()
	for signs := range 8 {
		turn := func(n, bit int) int { return n - 2*n*(signs>>bit&1) }
		outcomes[checkByTheorem(t, turn(a, 0), turn(b, 1), turn(c, 2))]++
	}
}

// TestLegendreUpToTheBound: all numbers near 1000, those of all sizes, and those beside 1 and -1.
func TestLegendreUpToTheBound(t *testing.T) {
	outcomes := map[api.Fault]int{}
	for a := 981; a <= 1000; a++ {
		for b := 981; b <= 1000; b++ {
			for c := 981; c <= 1000; c++ {
				checkSigns(t, a, b, c, outcomes)
			}
		}
	}
	s := sample.NewStream()
	for range 10000 {
		checkSigns(t, 1+s.Below(1000), 1+s.Below(1000), 1+s.Below(1000), outcomes)
		checkSigns(t, 1+s.Below(1000), 1+s.Below(30), 1+s.Below(150), outcomes)
	}
	for n := 1; n <= 1000; n++ {
		checkSigns(t, 1, 1, n, outcomes)
		checkSigns(t, 1, n, 1, outcomes)
		checkSigns(t, n, 1, 1, outcomes)
		other := 1 + s.Below(1000)
		checkSigns(t, 1, n, other, outcomes)
		checkSigns(t, n, 1, other, outcomes)
		checkSigns(t, n, other, 1, outcomes)
	}
	for _, f := range []api.Fault{none, faultOf(api.ErrForm, 0), faultOf(api.ErrNone, 0)} {
		if outcomes[f] < 10000 {
			t.Errorf("the outcomes are %v", outcomes)
		}
	}
}

// withoutSquares answers n over the greatest square that divides it, for n that is not 0.
func withoutSquares(n int) int {
	for d := 2; d*d <= size(n); d++ {
		for n%(d*d) == 0 {
			n /= d * d
		}
	}
	return n
}

// TestLegendreOfEquationsThatAreMade: c is made from a, b, x, y, so that there are x, y, z whatever the theorem says, each of them at each place.
func TestLegendreOfEquationsThatAreMade(t *testing.T) {
	s := sample.NewStream()
	made, great := 0, 0
	for range 60000 {
		a, b := s.Below(2001)-1000, s.Below(2001)-1000
		x, y := s.Below(30), s.Below(30)
		value := -(a*x*x + b*y*y)
		if a*b*value == 0 {
			continue
		}
		c := withoutSquares(value)
		if size(c) > 1000 || !areFree(a, b, c) {
			continue
		}
		made++
		if min(size(a), size(b), size(c)) > 100 {
			great++
		}
		checkRoot(t, a, b, c, true)
		checkRoot(t, c, a, b, true)
		checkRoot(t, b, c, a, true)
	}
	if made < 500 || great < 100 {
		t.Errorf("%d are made, %d of which are great", made, great)
	}
}

func TestLegendreOfChosenNumbers(t *testing.T) {
	for _, c := range []struct {
		a, b, c int
		want    api.Fault
	}{
		{1, 1, -2, none},
		{1, 1, -1, none},
		{1, -1, 1, none},
		{-1, 1, 1, none},
		{-1, -1, 1, none},
		{-1, 1, -1, none},
		{1, -1, -1, none},
		{1, 1, 1, faultOf(5, 0)},
		{-1, -1, -1, faultOf(5, 0)},
		{1, 1, -3, faultOf(5, 0)},
		{1, 1, -5, none},
		{1, -1, 997, none},
		{1, -1, -997, none},
		{997, 1, -1, none},
		{1, 1, -997, none},
		{1, 1, -998, faultOf(5, 0)},
		{1, 2, -3, none},
		{2, 3, -5, none},
		{3, 5, 7, faultOf(5, 0)},
		{-3, -5, -7, faultOf(5, 0)},
		{3, 5, -7, faultOf(5, 0)},
		{1, 2, -2, faultOf(6, 0)},
		{4, 1, -1, faultOf(6, 0)},
		{1, -9, 1, faultOf(6, 0)},
		{1, 1, 4, faultOf(6, 0)},
		{2, 2, 1, faultOf(6, 0)},
		{6, 1, -15, faultOf(6, 0)},
		{-6, 35, 14, faultOf(6, 0)},
		{1000, 1, -1, faultOf(6, 0)},
		{1, -1000, 1, faultOf(6, 0)},
		{1, 1, 1000, faultOf(6, 0)},
		{1000, 1000, -1000, faultOf(6, 0)},
		{1001, 1, -1, faultOf(3, 0)},
		{1, -1001, 1, faultOf(3, 1)},
		{1, 1, -1001, faultOf(3, 2)},
		{0, 1001, 1001, faultOf(4, 0)},
		{1001, 0, 0, faultOf(3, 0)},
		{1, 0, 1001, faultOf(4, 1)},
		{1, 1001, 0, faultOf(3, 1)},
		{2, 2, 0, faultOf(4, 2)},
		{2, 2, 1001, faultOf(3, 2)},
		{0, 0, 0, faultOf(4, 0)},
	} {
		if c.want == none {
			checkRoot(t, c.a, c.b, c.c, true)
		} else {
			checkNoRoot(t, c.a, c.b, c.c, c.want)
		}
	}
}

// wantLegendre is which fault P16.3 tells of single numbers.
func wantLegendre(numbers ...int) api.Fault {
	for i, n := range numbers {
		if n == 0 {
			return faultOf(api.ErrZero, i)
		}
		if n < -1000 || n > 1000 {
			return faultOf(api.ErrRange, i)
		}
	}
	return none
}

// TestLegendreTellsItsFaultsInOrder: each wrong number at each place beside each other, and nothing beside a fault.
func TestLegendreTellsItsFaultsInOrder(t *testing.T) {
	outcomes := map[api.Fault]int{}
	for _, a := range wrongs() {
		for _, b := range wrongs() {
			for _, c := range wrongs() {
				want := wantLegendre(a, b, c)
				if want == none {
					want = checkByTheorem(t, a, b, c)
				} else {
					checkNoRoot(t, a, b, c, want)
				}
				outcomes[want]++
			}
		}
	}
	if len(outcomes) != 3+3+3 {
		t.Errorf("not each outcome is met: %v", outcomes)
	}
}
