package cont_test

import (
	"math"
	"math/big"
	"testing"

	"arithmetica/api"
	"arithmetica/cont"
	"arithmetica/sample"
)

// gap answers how far x lies from a / b.
func gap(a, b int, x api.Frac) *big.Rat {
	answer := big.NewRat(int64(a), int64(b))
	return answer.Abs(answer.Sub(answer, big.NewRat(int64(x.Up), int64(x.Down))))
}

// isBetter is the chapter's sentence: x is nearer to a / b than y; or as near, with a lesser Down; or with one Down, and less.
func isBetter(a, b int, x, y api.Frac) bool {
	if order := gap(a, b, x).Cmp(gap(a, b, y)); order != 0 {
		return order < 0
	}
	if x.Down != y.Down {
		return x.Down < y.Down
	}
	return x.Up < y.Up
}

// triedNear goes through all fractions whose Down is from 1 to most, but for those that lie more than 2 from a / b.
func triedNear(a, b, most int) api.Frac {
	best := frac(a/b-3, 1)
	for down := 1; down <= most; down++ {
		for up := a*down/b - 2*down - 1; up <= a*down/b+2*down+1; up++ {
			if x := frac(up, down); isBetter(a, b, x, best) {
				best = x
			}
		}
	}
	return best
}

func checkNear(t *testing.T, a, b, most int, want api.Frac) {
	t.Helper()
	if x, f := cont.Near(a, b, most); x != want || f != none {
		t.Fatalf("Near(%d, %d, %d): %v, %v, want %v", a, b, most, x, f, want)
	}
}

func TestNearByTryingAll(t *testing.T) {
	for b := 1; b <= 14; b++ {
		for a := -2 * b; a <= 2*b; a++ {
			for most := 1; most <= 9; most++ {
				checkNear(t, a, b, most, triedNear(a, b, most))
			}
		}
	}
	for _, ab := range [][2]int{{355, 113}, {-355, 113}, {577, 408}, {-14159, 100000}, {61803, 100000}, {1, 100}, {-1, 100}, {499, 1000}, {1001, 2000}} {
		for most := 1; most <= 15; most++ {
			checkNear(t, ab[0], ab[1], most, triedNear(ab[0], ab[1], most))
		}
	}
}

// sweptNear goes through all Downs from 1 to most, and takes of each the two Ups that a / b lies between.
func sweptNear(a, b, most int) api.Frac {
	best := frac(a/b-3, 1)
	for down := 1; down <= most; down++ {
		up := new(big.Int).Div(product(large(a), large(down)), large(b)) // which goes down, below 0 too
		for _, x := range []api.Frac{frac(int(up.Int64()), down), frac(int(up.Int64())+1, down)} {
			if isBetter(a, b, x, best) {
				best = x
			}
		}
	}
	return best
}

func TestNearOfGreatNumbersAndSmallDowns(t *testing.T) {
	list := sample.Numbers(40)
	for i, a := range list {
		b := max(list[(7*i+3)%len(list)], -list[(7*i+3)%len(list)], 1)
		for _, most := range []int{1, 2, 3, 10, 47} {
			for _, x := range []int{a, a % b, b/2 + a%3} {
				checkNear(t, x, b, most, sweptNear(x, b, most))
			}
		}
	}
}

// neighbour answers the fraction next to x, below it (side -1) or above it (side 1), among all with a Down from 1 to most: the one with the greatest Down of those that differ from x by 1 over both Downs.
func neighbour(x api.Frac, most, side int) *big.Rat {
	// Up z - Down w = -side, with z as great as most lets it.
	up, down := large(x.Up), large(x.Down)
	z := large(0)
	if x.Down > 1 {
		z.ModInverse(new(big.Int).Mod(up, down), down)
		z.Mul(z, large(-side)).Mod(z, down)
	}
	steps := new(big.Int).Div(less(large(most), z), down)
	z.Add(z, product(steps, down))
	w := sum(product(up, z), large(side))
	return new(big.Rat).SetFrac(w.Quo(w, down), z)
}

// checkAmongNeighbours: x is in its form, and no neighbour is better. As there is none between these, x is the best of all.
func checkAmongNeighbours(t *testing.T, a, b, most int) {
	t.Helper()
	x, f := cont.Near(a, b, most)
	if f != none || x.Down < 1 || x.Down > most || new(big.Int).GCD(nil, nil, new(big.Int).Abs(large(x.Up)), large(x.Down)).Cmp(large(1)) != 0 {
		t.Fatalf("Near(%d, %d, %d): %v, %v", a, b, most, x, f)
	}
	for _, side := range []int{-1, 1} {
		next := neighbour(x, most, side)
		at := frac(int(next.Num().Int64()), int(next.Denom().Int64()))
		difference := product(large(side), less(product(large(at.Up), large(x.Down)), product(large(x.Up), large(at.Down))))
		if !next.Num().IsInt64() || difference.Cmp(large(1)) != 0 || at.Down+x.Down <= most {
			t.Fatalf("%v is no neighbour of %v up to %d", at, x, most)
		}
		if isBetter(a, b, at, x) {
			t.Fatalf("Near(%d, %d, %d): %v, but %v is better", a, b, most, x, at)
		}
	}
}

func TestNearOfSmallNumbersAgainstNeighbours(t *testing.T) {
	for b := 1; b <= 30; b++ {
		for a := -40; a <= 40; a++ {
			for most := 1; most <= 31; most++ {
				checkAmongNeighbours(t, a, b, most)
			}
		}
	}
}

func TestNearOfAllLengths(t *testing.T) {
	downs := append(sample.Positive(50), 2, 3, top-1, top)
	for i, a := range sample.Numbers(600) {
		for j := range 12 {
			b, most := downs[(5*i+7*j)%len(downs)], downs[(3*i+11*j)%len(downs)]
			// The Up of a neighbour may be beyond an int, if a is far greater than b.
			if a/b < 8 && a/b > -8 || most < 8 {
				checkAmongNeighbours(t, a, b, most)
			}
			checkAmongNeighbours(t, a%b, b, most)
		}
	}
}

// TestNearOfGreatDowns: both ends lie so near that only exact products tell which is nearer.
func TestNearOfGreatDowns(t *testing.T) {
	for _, b := range []int{top, top - 1, top - 11, 999999999999999877, 1<<59 - 1, 679891637638612258} {
		for _, a := range []int{1, 2, b/2 - 1, b/2 + 1, b / 3, b - 1, 420196140727489673, -420196140727489673, 314159265358979323, -271828182845904523, b, 1 - b, -b} {
			for most := 1; most < top/3; most = 3*most + 1 {
				checkAmongNeighbours(t, a, b, most)
			}
			for _, most := range []int{b - 1, b, top, b / 2, b/2 + 1, b / 3, 999999999, 1000000000} {
				checkAmongNeighbours(t, a, b, most)
			}
		}
	}
}

// TestNearOfTwoAsNear: in the middle of two neighbours the one with the lesser Down is taken, below or above.
func TestNearOfTwoAsNear(t *testing.T) {
	sides := map[int]int{}
	check := func(low, high api.Frac) {
		a, b := low.Up*high.Down+high.Up*low.Down, 2*low.Down*high.Down
		want := low
		if high.Down < low.Down {
			want = high
			sides[1]++
		} else {
			sides[-1]++
		}
		for _, most := range []int{max(low.Down, high.Down), low.Down + high.Down - 1} {
			checkNear(t, a, b, most, want)
		}
	}
	ends := [][2]api.Frac{{frac(0, 1), frac(1, 1)}, {frac(-1, 1), frac(0, 1)}, {frac(-3, 1), frac(-2, 1)}, {frac(7, 1), frac(8, 1)}}
	for _, end := range ends {
		for pattern := range 512 {
			low, high := end[0], end[1]
			for i := 0; low.Down+high.Down < 600000000 && i < 40; i++ {
				check(low, high)
				between := frac(low.Up+high.Up, low.Down+high.Down)
				if pattern>>(i%9)&1 == 0 {
					low = between
				} else {
					high = between
				}
			}
		}
	}
	if sides[-1] < 10000 || sides[1] < 10000 {
		t.Errorf("the lower one is taken %d times, the upper one %d times", sides[-1], sides[1])
	}
}

func TestNearOfChosenNumbers(t *testing.T) {
	for _, c := range []struct {
		a, b, most int
		want       api.Frac
	}{
		{314159265, 100000000, 120, frac(355, 113)},
		{314159265, 100000000, 113, frac(355, 113)},
		{314159265, 100000000, 112, frac(333, 106)},
		{-314159265, 100000000, 120, frac(-355, 113)},
		{314159265, 100000000, top, frac(62831853, 20000000)}, // met just
		{1, 2, 1, frac(0, 1)},
		{-1, 2, 1, frac(-1, 1)},
		{3, 2, 1, frac(1, 1)},
		{-3, 2, 1, frac(-2, 1)},
		{2, 4, 1, frac(0, 1)},
		{2, 4, 2, frac(1, 2)},
		{1, 4, 2, frac(0, 1)},  // as near as 1/2, with the lesser Down
		{3, 4, 2, frac(1, 1)},  // which is the upper one here
		{-1, 4, 2, frac(0, 1)}, // and here
		{-3, 4, 2, frac(-1, 1)},
		{5, 12, 3, frac(1, 2)}, // as near as 1/3
		{-5, 12, 3, frac(-1, 2)},
		{5, 12, 4, frac(1, 2)},
		{0, 1, 1, frac(0, 1)},
		{0, top, top, frac(0, 1)},
		{0, 7, 3, frac(0, 1)},
		{6, 3, 1, frac(2, 1)},
		{-6, 3, top, frac(-2, 1)},
		{top, 1, 1, frac(top, 1)},
		{-top, 1, top, frac(-top, 1)},
		{top, top, 1, frac(1, 1)},
		{top - 1, top, top, frac(top-1, top)},
		{top - 1, top, top - 1, frac(top-2, top-1)}, // nearer than 1
		{1 - top, top, top - 1, frac(2-top, top-1)},
		{1, top, top - 1, frac(1, top-1)},
		{1, top, top / 2, frac(0, 1)}, // as near as 2/MaxNum
		{1, top, top/2 + 1, frac(1, top/2+1)},
		{-1, top, top / 2, frac(0, 1)},
		{-1, top, top/2 + 1, frac(-1, top/2+1)},
		{top, 2, 1, frac(top/2, 1)},
		{top - 1, 2, 1, frac(top/2-1, 1)},
		{1 - top, 2, 1, frac(-top/2, 1)},
		{top, 3, 1, frac(333333333333333333, 1)},
		{-top, 3, 1, frac(-333333333333333333, 1)},
		{top, 3, 2, frac(666666666666666667, 2)},
		{-top, 3, 2, frac(-666666666666666667, 2)},
		{top, 3, 3, frac(top, 3)},
		{top, 7, 3, frac(142857142857142857, 1)},
		{top, 7, 4, frac(571428571428571429, 4)},
	} {
		if x, f := cont.Near(c.a, c.b, c.most); x != c.want || f != none {
			t.Errorf("Near(%d, %d, %d): %v, %v, want %v", c.a, c.b, c.most, x, f, c.want)
		}
	}
}

// wrongNear tells what Near must say of its arguments.
func wrongNear(a, b, most int) api.Fault {
	for at, n := range []int{a, b, most} {
		if n < -top || n > top {
			return faultOf(api.ErrRange, at)
		}
	}
	for at, n := range []int{b, most} {
		if n < 1 {
			return faultOf(api.ErrRange, at+1)
		}
	}
	return none
}

// TestNearOfWildNumbers: P1. All edges stand in each place.
func TestNearOfWildNumbers(t *testing.T) {
	for _, a := range sample.Edges() {
		for _, b := range sample.Edges() {
			for _, most := range sample.Edges() {
				want := wrongNear(a, b, most)
				x, f := cont.Near(a, b, most)
				if f != want || want != none && x != frac(0, 0) || want == none && (x.Down < 1 || x.Down > most) {
					t.Fatalf("Near(%d, %d, %d): %v, %v, want %v", a, b, most, x, f, want)
				}
			}
		}
	}
}

func TestWrongNear(t *testing.T) {
	for arguments, want := range map[[3]int]api.Fault{
		{top + 1, 1, 1}:               faultOf(api.ErrRange, 0),
		{-top - 1, 1, 1}:              faultOf(api.ErrRange, 0),
		{top + 1, 0, 0}:               faultOf(api.ErrRange, 0),
		{math.MinInt, math.MinInt, 0}: faultOf(api.ErrRange, 0),
		{1, top + 1, 1}:               faultOf(api.ErrRange, 1),
		{1, top + 1, top + 1}:         faultOf(api.ErrRange, 1),
		{1, -top - 1, 0}:              faultOf(api.ErrRange, 1),
		{1, 1, top + 1}:               faultOf(api.ErrRange, 2),
		{1, 0, top + 1}:               faultOf(api.ErrRange, 2), // what is no number is told first
		{1, -1, -top - 1}:             faultOf(api.ErrRange, 2),
		{1, 0, 1}:                     faultOf(api.ErrRange, 1),
		{1, -1, 1}:                    faultOf(api.ErrRange, 1),
		{1, -top, 0}:                  faultOf(api.ErrRange, 1),
		{0, 0, 0}:                     faultOf(api.ErrRange, 1),
		{1, 1, 0}:                     faultOf(api.ErrRange, 2),
		{1, 1, -1}:                    faultOf(api.ErrRange, 2),
		{1, top, -top}:                faultOf(api.ErrRange, 2),
	} {
		if x, f := cont.Near(arguments[0], arguments[1], arguments[2]); x != frac(0, 0) || f != want {
			t.Errorf("Near%v: %v, %v, want %v", arguments, x, f, want)
		}
	}
}
