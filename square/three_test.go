package square_test

import (
	"slices"
	"testing"

	"arithmetica/api"
	"arithmetica/prime"
	"arithmetica/sample"
	"arithmetica/square"
)

// checkThree holds Three against whether there are three, and against their squares.
func checkThree(t *testing.T, n int, has bool) {
	t.Helper()
	list, f := square.Three(n)
	if !has {
		if len(list) != 0 || f != faultOf(api.ErrNone, 0) {
			t.Fatalf("Three(%d): %v, %v, want ErrNone at 0", n, list, f)
		}
		return
	}
	if len(list) != 3 || f != none || !isFalling(list) || !squaresAre(list, n) {
		t.Fatalf("Three(%d): %v, %v", n, list, f)
	}
}

func checkFour(t *testing.T, n int) {
	t.Helper()
	if list, f := square.Four(n); len(list) != 4 || f != none || !isFalling(list) || !squaresAre(list, n) {
		t.Fatalf("Four(%d): %v, %v", n, list, f)
	}
}

// checkBoth holds Three against the form of n (Legendre), and Four.
func checkBoth(t *testing.T, n int) {
	t.Helper()
	checkThree(t, n, !hasNoThree(n))
	checkFour(t, n)
}

// triedThrees tells of each number up to most whether it is a sum of three squares, by trying all.
func triedThrees(most int) []bool {
	is := make([]bool, most+1)
	for a := 0; a*a <= most; a++ {
		for b := 0; b <= a && a*a+b*b <= most; b++ {
			for c := 0; c <= b && a*a+b*b+c*c <= most; c++ {
				is[a*a+b*b+c*c] = true
			}
		}
	}
	return is
}

// TestThreeByTryingAll: P11.2 with small n, and that the form of n tells the same (Legendre).
func TestThreeByTryingAll(t *testing.T) {
	for n, has := range triedThrees(50000) {
		checkThree(t, n, has)
		if has == hasNoThree(n) {
			t.Fatalf("%d: three squares %v, but its form tells the opposite", n, has)
		}
	}
}

// TestFourOfAllSmallNumbers: P11.3; there are always four (Lagrange).
func TestFourOfAllSmallNumbers(t *testing.T) {
	for n := range 50001 {
		checkFour(t, n)
	}
}

// TestThreeAndFourOfNumbersOfAllSorts: P11.2 and P11.3 at the edges, with great n of each rest by 8.
func TestThreeAndFourOfNumbersOfAllSorts(t *testing.T) {
	for _, n := range chosen() {
		checkBoth(t, n)
	}
	rests := map[int]int{}
	for _, n := range sample.Positive(2000) {
		n -= n % 8
		for rest := range 8 {
			if n+rest <= top {
				checkBoth(t, n+rest)
			}
			if n+rest > 1<<40 && n+rest <= top {
				rests[rest]++
			}
		}
	}
	for rest := range 8 {
		if rests[rest] < 200 {
			t.Errorf("only %d great numbers leave %d, left by 8", rests[rest], rest)
		}
	}
}

func TestThreeAndFourNextToMaxNum(t *testing.T) {
	for less := range 5001 {
		checkBoth(t, top-less)
	}
}

// TestThreeOfPowersOfFour: there are none of a power of four times a number that leaves 7, left by 8; the numbers next to it have three, but where they are such ones, too.
func TestThreeOfPowersOfFour(t *testing.T) {
	list := fours()
	times := map[int]int{}
	for _, n := range list {
		if !hasNoThree(n) {
			t.Fatalf("%d is not of this form", n)
		}
		checkThree(t, n, false)
		checkFour(t, n)
		for d := -4; d <= 4; d++ {
			if 0 <= n+d && n+d <= top {
				checkBoth(t, n+d)
			}
		}
		for fours := 1; n%fours == 0; fours *= 4 {
			times[fours]++
		}
	}
	for i := range 29 {
		if times[raised(4, i)] == 0 {
			t.Errorf("no number has 4 in it %d times", i)
		}
	}
}

// TestThreeOfScaledNumbers: 4 in n as often as it can be, whatever the rest leaves.
func TestThreeOfScaledNumbers(t *testing.T) {
	for core := range 64 {
		n := core
		for n > 0 && n <= top/4 {
			n *= 4
			checkThree(t, n, !hasNoThree(core))
			checkFour(t, n)
		}
	}
}

// TestThreeAndFourOfPrimes: primes of each rest by 8, and their squares and doubles.
func TestThreeAndFourOfPrimes(t *testing.T) {
	for _, start := range append(sample.Positive(300), 1000000, 999999000, top/2-3000, top-3000) {
		p := start
		for range 5 {
			next, f := prime.Next(p)
			if f != none {
				break
			}
			p = next
			checkBoth(t, p)
			if p <= top/2 {
				checkBoth(t, 2*p)
			}
			if p <= 1000000000 {
				checkBoth(t, p*p)
			}
		}
	}
}

func TestThreeOfChosenNumbers(t *testing.T) {
	for _, c := range []struct {
		n    int
		want []int // the only ones
	}{
		{0, []int{0, 0, 0}}, {1, []int{1, 0, 0}}, {2, []int{1, 1, 0}}, {3, []int{1, 1, 1}}, {4, []int{2, 0, 0}}, {5, []int{2, 1, 0}}, {6, []int{2, 1, 1}}, {8, []int{2, 2, 0}},
		{10, []int{3, 1, 0}}, {11, []int{3, 1, 1}}, {12, []int{2, 2, 2}}, {13, []int{3, 2, 0}}, {14, []int{3, 2, 1}}, {43, []int{5, 3, 3}}, {163, []int{9, 9, 1}}, {427, []int{15, 11, 9}},
		{1 << 58, []int{1 << 29, 0, 0}}, {1 << 59, []int{1 << 29, 1 << 29, 0}}, {3 << 58, []int{1 << 29, 1 << 29, 1 << 29}}, {163 << 50, []int{9 << 25, 9 << 25, 1 << 25}},
	} {
		if list, f := square.Three(c.n); !slices.Equal(list, c.want) || f != none {
			t.Errorf("Three(%d): %v, %v, want %v", c.n, list, f, c.want)
		}
	}
}

func TestFourOfChosenNumbers(t *testing.T) {
	for _, c := range []struct {
		n    int
		want []int // the only ones
	}{
		{0, []int{0, 0, 0, 0}}, {1, []int{1, 0, 0, 0}}, {2, []int{1, 1, 0, 0}}, {3, []int{1, 1, 1, 0}}, {5, []int{2, 1, 0, 0}}, {6, []int{2, 1, 1, 0}}, {7, []int{2, 1, 1, 1}}, {8, []int{2, 2, 0, 0}},
		{14, []int{3, 2, 1, 0}}, {15, []int{3, 2, 1, 1}}, {23, []int{3, 3, 2, 1}}, {1 << 59, []int{1 << 29, 1 << 29, 0, 0}}, {6 << 56, []int{2 << 28, 1 << 28, 1 << 28, 0}}, {14 << 54, []int{3 << 27, 2 << 27, 1 << 27, 0}},
	} {
		if list, f := square.Four(c.n); !slices.Equal(list, c.want) || f != none {
			t.Errorf("Four(%d): %v, %v, want %v", c.n, list, f, c.want)
		}
	}
}

// TestThreeAndFourTellWhatIsOutOfRange: ErrRange at 0, ahead of ErrNone, and nothing beside it.
func TestThreeAndFourTellWhatIsOutOfRange(t *testing.T) {
	for _, n := range append(beyond(), sample.Edges()...) {
		want := wantRange(n, top)
		list, f := square.Four(n)
		if f != want || want != none && len(list) != 0 {
			t.Errorf("Four(%d): %v, %v, want %v", n, list, f, want)
		}
		if want == none && hasNoThree(n) {
			want = faultOf(api.ErrNone, 0)
		}
		list, f = square.Three(n)
		if f != want || want != none && len(list) != 0 {
			t.Errorf("Three(%d): %v, %v, want %v", n, list, f, want)
		}
	}
}

// TestThreesAndFoursAreNewMemory: a list that was answered may be written over, behind its length too.
func TestThreesAndFoursAreNewMemory(t *testing.T) {
	for _, n := range []int{0, 1, 3, 7, 28, 60, 163, 1105, top} {
		for range 3 {
			checkBoth(t, n)
			three, _ := square.Three(n)
			four, _ := square.Four(n)
			kept := slices.Clone(four)
			clear(three[:cap(three)])
			for i := range three {
				three[i] = -1
			}
			if !slices.Equal(four, kept) {
				t.Fatalf("Four(%d): what was answered is now %v", n, four)
			}
			clear(four[:cap(four)])
			four[0] = -1
		}
	}
}
