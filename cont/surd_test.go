package cont_test

import (
	"math/big"
	"slices"
	"testing"

	"arithmetica/api"
	"arithmetica/cont"
	"arithmetica/sample"
)

// checkSurd holds Surd against the list of the root by long numbers, and l against every shorter one; it answers how long l is.
func checkSurd(t *testing.T, d int) int {
	t.Helper()
	first, l, f := cont.Surd(d)
	if f != none || len(l) == 0 || len(l) > 1000 || first < 1 || slices.Min(l) < 1 {
		t.Fatalf("Surd(%d): %d, %v, %v", d, first, l, f)
	}
	list := beginning(d, 0, 1, 2*len(l)+1)
	if list[0] != first || !slices.Equal(list[1:], slices.Repeat(l, 2)) {
		t.Fatalf("Surd(%d): %d, %v, want %v", d, first, l, list)
	}
	if k := shortest(list[1:], len(l)); k != len(l) {
		t.Fatalf("Surd(%d): %v has a part of %d entries that comes again", d, l, k)
	}
	if !comesToRoot(d, first, l) {
		t.Fatalf("Surd(%d): %d, %v does not come to the root", d, first, l)
	}
	return len(l)
}

// comesToRoot tells whether first, and then l again and again, comes to the root of d, however far it goes on (Lagrange).
//
// What l comes to, again and again, is the z above 0 with z = (a z + b) / (c z + e), where these are the last two fractions on the way through l. It must be 1 over the root less first, which is (root + first) / m with m = d - first^2.
func comesToRoot(d, first int, l []int) bool {
	a, b, c, e := large(1), large(0), large(0), large(1)
	for _, entry := range l {
		a, b = sum(product(large(entry), a), b), a
		c, e = sum(product(large(entry), c), e), c
	}
	m, up := large(d-first*first), large(first)
	turn := product(less(e, a), m)
	rational := sum(product(c, large(d+first*first)), product(turn, up), product(large(-1), b, m, m))
	irrational := sum(product(large(2), c, up), turn)
	return rational.Sign() == 0 && irrational.Sign() == 0
}

// checkSurdMuch: the list of the root by long numbers has no part of up to MaxList entries that comes again.
func checkSurdMuch(t *testing.T, d int) {
	t.Helper()
	if k := shortest(beginning(d, 0, 1, 2002)[1:], 1000); k != 0 {
		t.Fatalf("the list of the root of %d comes again after %d entries", d, k)
	}
	if first, l, f := cont.Surd(d); first != 0 || len(l) != 0 || f != faultOf(api.ErrMuch, 0) {
		t.Fatalf("Surd(%d): %d, %v, %v", d, first, l, f)
	}
}

func TestSurdOfAllLengths(t *testing.T) {
	much := 0
	for _, d := range roots(1500) {
		want := wrongRoot(d)
		first, l, f := cont.Surd(d)
		if want == none && f.Code == api.ErrMuch {
			checkSurdMuch(t, d)
			much++
		} else if want == none {
			checkSurd(t, d)
		} else if first != 0 || len(l) != 0 || f != want {
			t.Fatalf("Surd(%d): %d, %v, %v, want %v", d, first, l, f, want)
		}
	}
	if much > 20 {
		t.Errorf("%d of these are too much", much)
	}
}

func TestSurdOfLongLists(t *testing.T) {
	for d, want := range longRoots() {
		if want > 1000 {
			checkSurdMuch(t, d)
		} else if got := checkSurd(t, d); got != want {
			t.Errorf("Surd(%d) has %d entries, want %d", d, got, want)
		}
	}
	for d, want := range map[int]int{202309: 1001, 192886: 1002} { // one and two beyond the bound, and no more
		if got := shortest(beginning(d, 0, 1, 2100)[1:], 1050); got != want {
			t.Errorf("the list of the root of %d comes again after %d entries, want %d", d, got, want)
		}
	}
}

func TestSurdOfChosenNumbers(t *testing.T) {
	for _, c := range []struct {
		d, first int
		l        []int
	}{
		{2, 1, []int{2}},
		{3, 1, []int{1, 2}},
		{5, 2, []int{4}},
		{6, 2, []int{2, 4}},
		{7, 2, []int{1, 1, 1, 4}},
		{8, 2, []int{1, 4}},
		{10, 3, []int{6}},
		{13, 3, []int{1, 1, 1, 1, 6}},
		{14, 3, []int{1, 2, 1, 6}},
		{15, 3, []int{1, 6}},
		{19, 4, []int{2, 1, 3, 1, 2, 8}},
		{61, 7, []int{1, 4, 3, 1, 2, 2, 1, 3, 4, 1, 14}},
		{998002, 999, []int{1998}},
		{998003, 999, []int{999, 1998}},
		{999998, 999, []int{1, 998, 1, 1998}},
		{999999, 999, []int{1, 1998}},
	} {
		if first, l, f := cont.Surd(c.d); first != c.first || !slices.Equal(l, c.l) || f != none {
			t.Errorf("Surd(%d): %d, %v, %v, want %d, %v", c.d, first, l, f, c.first, c.l)
		}
	}
}

// wildRoots are numbers that are no roots to be told of, with what must be said of them.
func wildRoots() map[int]api.Fault {
	answer := map[int]api.Fault{}
	for _, d := range append(sample.Edges(), -4, -1, 0, 1, small+1, small+2, 1001*1001, 2*small) {
		if d < 2 || d > small {
			answer[d] = faultOf(api.ErrRange, 0)
		}
	}
	for root := 2; root <= 1000; root++ {
		answer[root*root] = faultOf(api.ErrKind, 0)
	}
	return answer
}

// TestWrongRoots: P1, and the faults of all three calls.
func TestWrongRoots(t *testing.T) {
	for d, want := range wildRoots() {
		if first, l, f := cont.Surd(d); first != 0 || len(l) != 0 || f != want {
			t.Errorf("Surd(%d): %d, %v, %v, want %v", d, first, l, f, want)
		}
		if x, y, f := cont.Pell(d); x != "" || y != "" || f != want {
			t.Errorf("Pell(%d): %s, %s, %v, want %v", d, x, y, f, want)
		}
		if a, b, norm, f := cont.Unit(d); a != "" || b != "" || norm != 0 || f != want {
			t.Errorf("Unit(%d): %s, %s, %d, %v, want %v", d, a, b, norm, f, want)
		}
	}
}

func TestSurdAnswersNewMemory(t *testing.T) {
	_, one, _ := cont.Surd(7)
	one[0], one[3] = 9, 9
	if _, other, _ := cont.Surd(7); !slices.Equal(other, []int{1, 1, 1, 4}) {
		t.Errorf("Surd(7): %v", other)
	}
}

// TestBeginningIsThatOfTheRoot: the tests above would be empty if their own list were wrong.
func TestBeginningIsThatOfTheRoot(t *testing.T) {
	for _, c := range [][3]int{{2, 0, 1}, {7, 0, 1}, {5, 1, 2}, {61, 1, 2}, {999997, 0, 1}} {
		d, p, q := c[0], c[1], c[2]
		list := beginning(d, p, q, 40)
		for many := 1; many < 40; many++ {
			// Two neighbours lie on both sides of the root: q x - p squared is below d for one, above for the other.
			for _, entries := range [][]int{list[:many], list[:many+1]} {
				x := comesTo(entries)
				x.Mul(x, new(big.Rat).SetInt64(int64(q)))
				x.Sub(x, new(big.Rat).SetInt64(int64(p)))
				below := x.Mul(x, x).Cmp(new(big.Rat).SetInt64(int64(d))) < 0
				if below != (len(entries)%2 == 1) {
					t.Fatalf("%v is no beginning of the list of (%d + root of %d) / %d", entries, p, d, q)
				}
			}
		}
	}
}
