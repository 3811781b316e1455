package cont_test

import (
	"testing"

	"arithmetica/api"
	"arithmetica/cont"
)

// checkUnit holds Unit against its norm and against all lesser ones, and answers it, with its norm.
func checkUnit(t *testing.T, d int) (quadratic, int) {
	t.Helper()
	aText, bText, norm, f := cont.Unit(d)
	e := quadratic{d, decimal(aText), decimal(bText)}
	// With a and b above 0, e is greater in size than (a - b root) / 2, and as their product is 1 or -1, it is above 1.
	if f != none || e.a == nil || e.b == nil || e.a.Sign() <= 0 || e.b.Sign() <= 0 || norm != 1 && norm != -1 {
		t.Fatalf("Unit(%d): %s, %s, %d, %v", d, aText, bText, norm, f)
	}
	if e.norm().Cmp(large(norm)) != 0 || d%4 != 1 && !e.isEven() {
		t.Fatalf("Unit(%d): %v, %v, %d", d, e.a, e.b, norm)
	}
	if !e.isLeast(func(root quadratic, norm int) bool { return d%4 == 1 || root.isEven() }) {
		t.Fatalf("Unit(%d): %v, %v is not the least", d, e.a, e.b)
	}
	return e, norm
}

// checkUnitMuch: the list that Unit goes by has no part of up to MaxList entries that comes again.
func checkUnitMuch(t *testing.T, d int) {
	t.Helper()
	p, q := begin(d)
	if k := shortest(beginning(d, p, q, 2002)[1:], 1000); k != 0 {
		t.Fatalf("the list of (%d + root of %d) / %d comes again after %d entries", p, d, q, k)
	}
	if a, b, norm, f := cont.Unit(d); a != "" || b != "" || norm != 0 || f != faultOf(api.ErrMuch, 0) {
		t.Fatalf("Unit(%d): %s, %s, %d, %v", d, a, b, norm, f)
	}
}

// triedUnit goes through all b up to most: the least e has the least b, and of one b the norm -1 leaves the lesser a.
func triedUnit(d, most int) (a, b, norm int) {
	for b := 1; b <= most; b++ {
		for _, norm := range []int{-1, 1} {
			a := squareRoot(d*b*b + 4*norm)
			if a > 0 && (d%4 == 1 || a%2 == 0 && b%2 == 0) {
				return a, b, norm
			}
		}
	}
	return 0, 0, 0
}

func TestUnitByTryingAll(t *testing.T) {
	const most = 40000
	found := 0
	for d := 2; d <= 400; d++ {
		if wrongUnit(d) != none {
			continue
		}
		e, norm := checkUnit(t, d)
		a, b, wantNorm := triedUnit(d, most)
		if b == 0 {
			if e.b.Cmp(large(most)) <= 0 {
				t.Fatalf("Unit(%d): %v, %v, but no b up to %d has an a", d, e.a, e.b, most)
			}
			continue
		}
		if e.a.Cmp(large(a)) != 0 || e.b.Cmp(large(b)) != 0 || norm != wantNorm {
			t.Fatalf("Unit(%d): %v, %v, %d, want %d, %d, %d", d, e.a, e.b, norm, a, b, wantNorm)
		}
		found++
	}
	if found < 150 {
		t.Errorf("only %d are found by trying", found)
	}
}

func TestUnitOfAllLengths(t *testing.T) {
	for _, d := range roots(800) {
		want := wrongUnit(d)
		a, b, norm, f := cont.Unit(d)
		if want == none && f.Code == api.ErrMuch {
			checkUnitMuch(t, d)
		} else if want == none {
			checkUnit(t, d)
		} else if a != "" || b != "" || norm != 0 || f != want {
			t.Fatalf("Unit(%d): %s, %s, %d, %v, want %v", d, a, b, norm, f, want)
		}
	}
}

// TestUnitOfLongLists: a d that leaves 1, left by 4, is told by the list of (1 + root) / 2, however long that of the root is; the others by that of the root.
func TestUnitOfLongLists(t *testing.T) {
	check := func(d, many int) {
		if f := wrongUnit(d); f != none {
			t.Fatalf("%d is no d for this test: %v", d, f)
		}
		if many > 1000 {
			checkUnitMuch(t, d)
		} else if _, norm := checkUnit(t, d); norm != 1-2*(many%2) {
			t.Errorf("Unit(%d) has the norm %d", d, norm)
		}
	}
	for d, many := range longHalves() {
		check(d, many)
	}
	for d, many := range longRoots() {
		if d%4 > 1 {
			check(d, many)
		}
	}
	for _, d := range []int{182989, 199021, 201301, 202309} { // the list of the root is too long, and the other is not
		checkSurdMuch(t, d)
		checkUnit(t, d)
	}
	for _, d := range []int{237241, 241609, 251161} { // the other way round
		checkSurd(t, d)
		checkUnitMuch(t, d)
	}
}

// TestPellIsAPowerOfUnit: x + y root is e, or its square, third or sixth power, and each of these comes.
func TestPellIsAPowerOfUnit(t *testing.T) {
	exponents := map[int]int{}
	for _, d := range roots(1500) {
		aText, bText, _, f := cont.Unit(d)
		xText, yText, g := cont.Pell(d)
		if f != none || g != none {
			continue
		}
		e := quadratic{d, decimal(aText), decimal(bText)}
		x, y := product(large(2), decimal(xText)), product(large(2), decimal(yText))
		power, exponent := e, 1
		for exponent < 7 && (power.a.Cmp(x) != 0 || power.b.Cmp(y) != 0) {
			power = power.times(e)
			exponent++
		}
		exponents[exponent]++
	}
	for exponent, many := range exponents {
		if exponent != 1 && exponent != 2 && exponent != 3 && exponent != 6 {
			t.Errorf("%d are powers of %d, or none", many, exponent)
		}
	}
	for _, exponent := range []int{1, 2, 3, 6} {
		if exponents[exponent] < 10 {
			t.Errorf("only %d are powers of %d", exponents[exponent], exponent)
		}
	}
}

func TestUnitOfChosenNumbers(t *testing.T) {
	for d, want := range map[int]struct {
		a, b string
		norm int
	}{
		2:      {"2", "2", -1},
		3:      {"4", "2", 1},
		5:      {"1", "1", -1},
		6:      {"10", "4", 1},
		7:      {"16", "6", 1},
		10:     {"6", "2", -1},
		11:     {"20", "6", 1},
		13:     {"3", "1", -1},
		14:     {"30", "8", 1},
		15:     {"8", "2", 1},
		17:     {"8", "2", -1},
		21:     {"5", "1", 1},
		29:     {"5", "1", -1},
		33:     {"46", "8", 1},
		37:     {"12", "2", -1},
		61:     {"39", "5", -1},
		77:     {"9", "1", 1},
		94:     {"4286590", "442128", 1},
		109:    {"261", "25", -1},
		998002: {"1998", "2", -1},
		998003: {"1996004", "1998", 1},
		998005: {"999", "1", -1},
	} {
		a, b, norm, f := cont.Unit(d)
		if a != want.a || b != want.b || norm != want.norm || f != none {
			t.Errorf("Unit(%d): %s, %s, %d, %v, want %v", d, a, b, norm, f, want)
		}
	}
}

// TestUnitOfSquaresInIt: a d that the square of a prime divides is told ahead of a list that is too long.
func TestUnitOfSquaresInIt(t *testing.T) {
	want := faultOf(api.ErrKind, 0)
	for _, d := range []int{8, 12, 18, 20, 27, 45, 50, 98, 242, 2 * 997 * 25, 3 * 577 * 577, 999999, 999996, 999992, 997 * 997, 2 * 701 * 701, 280996, 294436} {
		if a, b, norm, f := cont.Unit(d); a != "" || b != "" || norm != 0 || f != want {
			t.Errorf("Unit(%d): %s, %s, %d, %v, want %v", d, a, b, norm, f, want)
		}
	}
	for _, d := range []int{280996, 294436} {
		checkSurdMuch(t, d)
	}
}
