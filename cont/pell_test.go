package cont_test

import (
	"math"
	"math/big"
	"testing"

	"arithmetica/api"
	"arithmetica/cont"
)

// quadratic is (a + b times the root of d) / 2.
type quadratic struct {
	d    int
	a, b *big.Int
}

// norm answers (a^2 - d b^2) / 4; 0, if that is not whole.
func (e quadratic) norm() *big.Int {
	norm, rest := new(big.Int).QuoRem(less(product(e.a, e.a), product(large(e.d), e.b, e.b)), large(4), new(big.Int))
	if rest.Sign() != 0 {
		return large(0)
	}
	return norm
}

func (e quadratic) times(f quadratic) quadratic {
	a := sum(product(e.a, f.a), product(large(e.d), e.b, f.b))
	b := sum(product(e.a, f.b), product(e.b, f.a))
	return quadratic{e.d, a.Rsh(a, 1), b.Rsh(b, 1)}
}

func (e quadratic) isEven() bool { return e.a.Bit(0) == 0 && e.b.Bit(0) == 0 }

// wholeRoot answers the greatest whole number whose k-th power is not above n.
func wholeRoot(n *big.Int, k int) *big.Int {
	answer := new(big.Int)
	for bit := n.BitLen()/k + 1; bit >= 0; bit-- {
		try := new(big.Int).SetBit(answer, bit, 1)
		if new(big.Int).Exp(try, large(k), nil).Cmp(n) <= 0 {
			answer = try
		}
	}
	return answer
}

// trace answers r^k + s^k, where r + s is a, and r s is norm.
func trace(a *big.Int, norm, k int) *big.Int {
	before, last := large(2), a
	for range k - 1 {
		before, last = last, less(product(a, last), product(large(norm), before))
	}
	return last
}

// isPowerOf tells whether e, whose norm is 1 or -1, is the k-th power of a number of its kind above 1 that is allowed.
func (e quadratic) isPowerOf(k int, allowed func(root quadratic, norm int) bool) bool {
	near := wholeRoot(e.a, k)
	for _, norm := range []int{1, -1} {
		for more := -2; more <= 2; more++ {
			a := sum(near, large(more))
			square, rest := new(big.Int).QuoRem(less(product(a, a), large(4*norm)), large(e.d), new(big.Int))
			if a.Sign() <= 0 || square.Sign() <= 0 || rest.Sign() != 0 || !isSquare(square) {
				continue
			}
			root := quadratic{e.d, a, new(big.Int).Sqrt(square)}
			if allowed(root, norm) && trace(a, norm, k).Cmp(e.a) == 0 {
				return true
			}
		}
	}
	return false
}

// isLeast tells whether no number above 1 that is allowed is less than e: all of them are powers of the least one, so that e is one of a prime exponent, if it is not the least. Of a root of e, b is at least 1, and so a is at least nearly the root of d.
func (e quadratic) isLeast(allowed func(root quadratic, norm int) bool) bool {
	for k := 2; ; k++ {
		most := sum(wholeRoot(e.a, k), large(2))
		if product(most, most).Cmp(large(e.d-4)) < 0 || k > 2*e.a.BitLen()+2 {
			return true
		}
		if large(k).ProbablyPrime(0) && e.isPowerOf(k, allowed) {
			return false
		}
	}
}

// checkPell holds Pell against its equation and against all lesser ones, and answers x + y root.
func checkPell(t *testing.T, d int) quadratic {
	t.Helper()
	xText, yText, f := cont.Pell(d)
	x, y := decimal(xText), decimal(yText)
	if f != none || x == nil || y == nil || x.Sign() <= 0 || y.Sign() <= 0 {
		t.Fatalf("Pell(%d): %s, %s, %v", d, xText, yText, f)
	}
	if less(product(x, x), product(large(d), y, y)).Cmp(large(1)) != 0 {
		t.Fatalf("Pell(%d): %s, %s", d, x, y)
	}
	e := quadratic{d, product(large(2), x), product(large(2), y)}
	if !e.isLeast(func(root quadratic, norm int) bool { return root.isEven() && norm == 1 }) {
		t.Fatalf("Pell(%d): %s, %s is not the least", d, x, y)
	}
	return e
}

// squareRoot answers the root of n, if n is a square; else 0. Up to 2^52 a float's root is exact.
func squareRoot(n int) int {
	if root := int(math.Sqrt(float64(n))); root*root == n {
		return root
	}
	return 0
}

// triedPell goes through all y up to most.
func triedPell(d, most int) (x, y int) {
	for y := 1; y <= most; y++ {
		if x := squareRoot(d*y*y + 1); x > 0 {
			return x, y
		}
	}
	return 0, 0
}

func TestPellByTryingAll(t *testing.T) {
	const most = 40000
	found := 0
	for d := 2; d <= 400; d++ {
		if wrongRoot(d) != none {
			continue
		}
		e := checkPell(t, d)
		x, y := triedPell(d, most)
		if y == 0 {
			if e.b.Cmp(large(2*most)) <= 0 {
				t.Fatalf("Pell(%d): %v / 2, %v / 2, but no y up to %d has an x", d, e.a, e.b, most)
			}
			continue
		}
		if e.a.Cmp(large(2*x)) != 0 || e.b.Cmp(large(2*y)) != 0 {
			t.Fatalf("Pell(%d): %v / 2, %v / 2, want %d, %d", d, e.a, e.b, x, y)
		}
		found++
	}
	if found < 200 {
		t.Errorf("only %d are found by trying", found)
	}
}

func TestPellOfAllLengths(t *testing.T) {
	for _, d := range roots(800) {
		_, _, want := cont.Surd(d)
		if want == none {
			checkPell(t, d)
		} else if x, y, f := cont.Pell(d); x != "" || y != "" || f != want {
			t.Fatalf("Pell(%d): %s, %s, %v, want %v", d, x, y, f, want)
		}
	}
}

func TestPellOfLongLists(t *testing.T) {
	for d, many := range longRoots() {
		if many <= 1000 {
			checkPell(t, d)
		} else if x, y, f := cont.Pell(d); x != "" || y != "" || f != faultOf(api.ErrMuch, 0) {
			t.Errorf("Pell(%d): %s, %s, %v", d, x, y, f)
		}
	}
}

func TestPellOfChosenNumbers(t *testing.T) {
	for d, want := range map[int][2]string{
		2:      {"3", "2"},
		3:      {"2", "1"},
		5:      {"9", "4"},
		6:      {"5", "2"},
		7:      {"8", "3"},
		8:      {"3", "1"},
		10:     {"19", "6"},
		12:     {"7", "2"},
		13:     {"649", "180"},
		21:     {"55", "12"},
		29:     {"9801", "1820"},
		61:     {"1766319049", "226153980"},
		94:     {"2143295", "221064"},
		109:    {"158070671986249", "15140424455100"},
		181:    {"2469645423824185801", "183567298683461940"},
		661:    {"16421658242965910275055840472270471049", "638728478116949861246791167518480580"},
		991:    {"379516400906811930638014896080", "12055735790331359447442538767"},
		1000:   {"39480499", "1248483"},
		998002: {"1996003", "1998"},
		998003: {"998002", "999"},
		999998: {"999999", "1000"},
		999999: {"1000", "1"},
	} {
		if x, y, f := cont.Pell(d); x != want[0] || y != want[1] || f != none {
			t.Errorf("Pell(%d): %s, %s, %v, want %v", d, x, y, f, want)
		}
	}
}
