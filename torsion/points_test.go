package torsion_test

import (
	"slices"
	"testing"

	"arithmetica/api"
	"arithmetica/curve"
)

// TestPointsByTryingAll: against all whole X and Y that Nagell and Lutz leave, added with fractions till Far comes.
func TestPointsByTryingAll(t *testing.T) {
	for _, c := range slices.Concat(smallCurves(40), edgeCurves(), drawnCurves(4000)) {
		checkPoints(t, c, c.tried(t))
	}
}

// TestPointsOfFamiliesByTryingAll: the same for all curves that have a point of the order 2, 3 or 4, and so for most that have any but Far.
func TestPointsOfFamiliesByTryingAll(t *testing.T) {
	for _, c := range curvesOf(ofOrderTwo(), ofOrderThree(), ofOrderFour()) {
		checkPoints(t, c, c.tried(t))
	}
}

func TestPointsOfChosenCurves(t *testing.T) {
	for _, c := range []struct {
		pair
		want []api.Point
	}{
		{pair{0, 1}, []api.Point{far, at(-1, 0), at(0, -1), at(0, 1), at(2, -3), at(2, 3)}},
		{pair{0, 2}, []api.Point{far}},
		{pair{0, -1}, []api.Point{far, at(1, 0)}},
		{pair{0, 4}, []api.Point{far, at(0, -2), at(0, 2)}},
		{pair{0, -2}, []api.Point{far}},
		{pair{0, -27}, []api.Point{far, at(3, 0)}},
		{pair{0, -432}, []api.Point{far, at(12, -36), at(12, 36)}},
		{pair{0, 729}, []api.Point{far, at(-9, 0), at(0, -27), at(0, 27), at(18, -81), at(18, 81)}},
		{pair{0, 1000}, []api.Point{far, at(-10, 0)}},
		{pair{0, -1000}, []api.Point{far, at(10, 0)}},
		{pair{0, 961}, []api.Point{far, at(0, -31), at(0, 31)}},
		{pair{-1, 0}, []api.Point{far, at(-1, 0), at(0, 0), at(1, 0)}},
		{pair{1, 0}, []api.Point{far, at(0, 0)}},
		{pair{4, 0}, []api.Point{far, at(0, 0), at(2, -4), at(2, 4)}},
		{pair{-4, 0}, []api.Point{far, at(-2, 0), at(0, 0), at(2, 0)}},
		{pair{324, 0}, []api.Point{far, at(0, 0), at(18, -108), at(18, 108)}},
		{pair{1000, 0}, []api.Point{far, at(0, 0)}},
		{pair{-1000, 0}, []api.Point{far, at(0, 0)}},
		{pair{-961, 0}, []api.Point{far, at(-31, 0), at(0, 0), at(31, 0)}},
		{pair{-993, 992}, []api.Point{far, at(-32, 0), at(1, 0), at(31, 0)}},
		{pair{-993, -992}, []api.Point{far, at(-31, 0), at(-1, 0), at(32, 0)}},
		{pair{-995, 928}, []api.Point{far, at(-32, 0)}},
		{pair{-43, 166}, []api.Point{far, at(-5, -16), at(-5, 16), at(3, -8), at(3, 8), at(11, -32), at(11, 32)}},
		{pair{-842, 29}, []api.Point{far, at(29, 0), at(70, -533), at(70, 533)}},
		{pair{-15, 22}, []api.Point{far, at(-1, -6), at(-1, 6), at(2, 0), at(3, -2), at(3, 2)}},
		{pair{1000, 1000}, []api.Point{far}},
		{pair{1000, -1000}, []api.Point{far}},
		{pair{-1000, 1000}, []api.Point{far}},
		{pair{-1000, -1000}, []api.Point{far}},
		{pair{-1000, -999}, []api.Point{far, at(-1, 0)}},
		{pair{-1000, 999}, []api.Point{far, at(1, 0)}},
		{pair{999, 1000}, []api.Point{far, at(-1, 0)}},
	} {
		if !slices.Equal(c.tried(t), c.want) {
			t.Errorf("the test's own points of %v are %v", c.pair, c.tried(t))
		}
		checkPoints(t, c.pair, c.want)
	}
}

// TestPointsThatLookFiniteAreLeftOut: whole points that Nagell and Lutz leave, but which are not of finite order.
func TestPointsThatLookFiniteAreLeftOut(t *testing.T) {
	met := 0
	for _, c := range smallCurves(60) {
		list := pointsOf(t, c)
		for _, q := range c.left() {
			if order, _ := c.order(spotOf(q)); order == 0 {
				met++
				if slices.Contains(list, q) {
					t.Fatalf("Points of %v: %v, though %v is not of finite order", c, list, q)
				}
			}
		}
	}
	if met < 500 {
		t.Errorf("only %d such points were met", met)
	}
}

// TestPointsAreAGroup: each is on the curve and of finite order, its opposite is there, and so is the sum of each two.
func TestPointsAreAGroup(t *testing.T) {
	for _, c := range slices.Concat(smallCurves(60), edgeCurves(), drawnCurves(10000), curvesOf(ofOrderTwo(), ofOrderThree(), ofOrderFour())) {
		list := pointsOf(t, c)
		if list[0] != far {
			t.Fatalf("Points of %v: %v begins without Far", c, list)
		}
		for _, q := range list {
			if !q.Far && c.value(q.X) != q.Y*q.Y || q.Far && q != far {
				t.Fatalf("%v is none of %v", q, c)
			}
			if order, _ := c.order(spotOf(q)); order == 0 {
				t.Fatalf("%v on %v is not of finite order", q, c)
			}
			for _, r := range list {
				if both, ok := c.add(q, r); !ok || !slices.Contains(list, both) {
					t.Fatalf("%v and %v on %v: the sum %v is missing", q, r, c, both)
				}
			}
		}
	}
}

// TestPointsComeByXThenByY: and none of them comes twice.
func TestPointsComeByXThenByY(t *testing.T) {
	for _, c := range slices.Concat(drawnCurves(2000), curvesOf(ofOrderTwo(), ofOrderThree(), ofOrderFour())) {
		list := pointsOf(t, c)
		for i := 2; i < len(list); i++ {
			if q, r := list[i-1], list[i]; q.X > r.X || q.X == r.X && q.Y >= r.Y {
				t.Fatalf("Points of %v: %v", c, list)
			}
		}
	}
}

// byPrime answers what c is by the prime p, and whether it stays a curve.
func (c pair) byPrime(p int) (a, b int, ok bool) {
	return rest(c.a, p), rest(c.b, p), c.measure()%p != 0
}

func rest(n, m int) int { return ((n % m) + m) % m }

func restOf(q api.Point, p int) api.Point {
	return api.Point{X: rest(q.X, p), Y: rest(q.Y, p), Far: q.Far}
}

// TestPointsByAPrime: by a prime that does not divide 4 a^3 + 27 b^2, points of finite order stay apart, and are added as chapter 14 adds.
func TestPointsByAPrime(t *testing.T) {
	for _, c := range curvesOf(ofOrderThree(), ofOrderFour(), map[pair][]api.Point{{-43, 166}: nil, {-1, 0}: nil, {-993, 992}: nil}) {
		list := pointsOf(t, c)
		for _, p := range []int{5, 7, 11, 13, 97, 1999} {
			a, b, ok := c.byPrime(p)
			if !ok {
				continue
			}
			seen := map[api.Point]bool{}
			for _, q := range list {
				seen[restOf(q, p)] = true
				order, _ := c.order(spotOf(q))
				if n, f := curve.Order(p, a, b, restOf(q, p)); n != order || f != none {
					t.Fatalf("%v on %v has the order %d, by %d: %d, %v", q, c, order, p, n, f)
				}
				for _, r := range list {
					both, _ := c.add(q, r)
					if got, f := curve.Add(p, a, b, restOf(q, p), restOf(r, p)); got != restOf(both, p) || f != none {
						t.Fatalf("%v and %v on %v, by %d: %v, %v", q, r, c, p, got, f)
					}
				}
			}
			if len(seen) != len(list) {
				t.Fatalf("Points of %v: %v are not apart by %d", c, list, p)
			}
		}
	}
}

// TestNoPointIsLeftOutByPrimes: as they stay apart, how many there are divides how many there are by each prime. For nearly all curves that leaves no more than what is answered, without a word of Nagell and Lutz.
func TestNoPointIsLeftOutByPrimes(t *testing.T) {
	shown, curves := 0, slices.Concat(smallCurves(12), drawnCurves(1000))
	for _, c := range curves {
		many, most := len(pointsOf(t, c)), 0
		for _, p := range []int{5, 7, 11, 13, 17, 19, 23, 29, 31, 37, 41, 43, 47, 53, 59, 61, 67, 71, 73, 79} {
			if a, b, ok := c.byPrime(p); ok {
				list, _ := curve.Points(p, a, b)
				most = gcd(most, len(list))
			}
		}
		if most%many != 0 {
			t.Fatalf("%v has %d points, but by primes at most %d", c, many, most)
		}
		if most == many {
			shown++
		}
	}
	if shown*100 < len(curves)*95 {
		t.Errorf("only %d of %d curves were shown", shown, len(curves))
	}
}

// TestPointsAreNewMemory: what a caller does with an answer is not seen in the next one.
func TestPointsAreNewMemory(t *testing.T) {
	for _, c := range []pair{{0, 1}, {0, 2}, {-1, 0}, {-43, 166}} {
		first := pointsOf(t, c)
		kept := slices.Clone(first)
		second := pointsOf(t, c)
		for i := range first[:cap(first)] {
			first[:cap(first)][i] = at(-7, 3)
		}
		if !slices.Equal(second, kept) || !slices.Equal(pointsOf(t, c), kept) {
			t.Fatalf("the points of %v have changed with an earlier answer", c)
		}
	}
}
