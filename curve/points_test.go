package curve_test

import (
	"slices"
	"testing"

	"arithmetica/api"
	"arithmetica/curve"
)

func checkPoints(t *testing.T, c triple, want []api.Point) {
	t.Helper()
	if list, f := curve.Points(c.p, c.a, c.b); !slices.Equal(list, want) || f != none {
		t.Fatalf("Points of %v: %v, %v, want %v", c, list, f, want)
	}
}

func TestPointsByTryingAll(t *testing.T) {
	for _, c := range slices.Concat(smallCurves(37), greatCurves(6)) {
		checkPoints(t, c, c.tried())
	}
}

func TestPointsOfChosenCurves(t *testing.T) {
	for _, c := range []struct {
		triple
		want []api.Point
	}{
		{triple{5, 1, 1}, []api.Point{far, at(0, 1), at(0, 4), at(2, 1), at(2, 4), at(3, 1), at(3, 4), at(4, 2), at(4, 3)}},
		{triple{7, 0, 2}, []api.Point{far, at(0, 3), at(0, 4), at(3, 1), at(3, 6), at(5, 1), at(5, 6), at(6, 1), at(6, 6)}},
		{triple{5, 2, 0}, []api.Point{far, at(0, 0)}},
		{triple{5, 4, 0}, []api.Point{far, at(0, 0), at(1, 0), at(2, 1), at(2, 4), at(3, 2), at(3, 3), at(4, 0)}},
		{triple{5, 0, 4}, []api.Point{far, at(0, 2), at(0, 3), at(1, 0), at(3, 1), at(3, 4)}},
		{triple{5, 4, 4}, []api.Point{far, at(0, 2), at(0, 3), at(1, 2), at(1, 3), at(2, 0), at(4, 2), at(4, 3)}},
		{triple{7, 0, 4}, []api.Point{far, at(0, 2), at(0, 5)}},
		{triple{7, 0, 6}, []api.Point{far, at(1, 0), at(2, 0), at(4, 0)}},
	} {
		if !slices.Equal(c.tried(), c.want) {
			t.Errorf("the test's own points of %v are %v", c.triple, c.tried())
		}
		checkPoints(t, c.triple, c.want)
	}
}

// TestPointsAreWithinHassesBound: they are p + 1, and at most twice the root of p less or more; and both ends are met, as near as whole numbers come.
func TestPointsAreWithinHassesBound(t *testing.T) {
	for _, p := range primes(5, 61) {
		least, most := 2*p, 0
		for _, c := range curvesBy(p) {
			many := len(pointsOf(t, c))
			if off := many - p - 1; off*off > 4*p {
				t.Fatalf("%v has %d points", c, many)
			}
			least, most = min(least, many), max(most, many)
		}
		width := 0
		for (width+1)*(width+1) <= 4*p {
			width++
		}
		if least != p+1-width || most != p+1+width {
			t.Errorf("the curves of %d have from %d to %d points", p, least, most)
		}
	}
	for _, c := range greatCurves(300) {
		many := len(pointsOf(t, c))
		if off := many - c.p - 1; off*off > 4*c.p {
			t.Fatalf("%v has %d points", c, many)
		}
	}
}

// TestPointsAndThoseOfTheTwist: with a d that is no square, each X has two points on the one curve or on the other, or one on both.
func TestPointsAndThoseOfTheTwist(t *testing.T) {
	for _, c := range append(smallCurves(23), greatCurves(100)...) {
		squares := make([]bool, c.p)
		for y := range c.p {
			squares[y*y%c.p] = true
		}
		d := slices.Index(squares, false)
		other := triple{c.p, c.a * d * d % c.p, c.b * d * d * d % c.p}
		if one, two := len(pointsOf(t, c)), len(pointsOf(t, other)); one+two != 2*c.p+2 {
			t.Fatalf("%v has %d points, %v has %d", c, one, other, two)
		}
	}
}

// TestPointsOfCurvesThatHaveOneMoreThanTheirPrime: where a is 0 and p leaves 2 by 3, each number is a cube once; where b is 0 and p leaves 3 by 4, X and -X share their two Ys.
func TestPointsOfCurvesThatHaveOneMoreThanTheirPrime(t *testing.T) {
	for _, p := range primes(5, api.MaxTiny) {
		for _, n := range []int{1, 2, 3, p / 2, p - 2, p - 1} {
			if p%3 == 2 {
				if many := len(pointsOf(t, triple{p, 0, n})); many != p+1 {
					t.Fatalf("%d, 0, %d has %d points", p, n, many)
				}
			}
			if p%4 == 3 {
				if many := len(pointsOf(t, triple{p, n, 0})); many != p+1 {
					t.Fatalf("%d, %d, 0 has %d points", p, n, many)
				}
			}
		}
	}
}

// TestPointsAreNewMemory: what a caller does with an answer is not seen in the next one.
func TestPointsAreNewMemory(t *testing.T) {
	for _, c := range append(smallCurves(11), greatCurves(3)...) {
		first := pointsOf(t, c)
		kept := slices.Clone(first)
		second := pointsOf(t, c)
		for i := range first[:cap(first)] {
			first[:cap(first)][i] = at(-7, 3)
		}
		if !slices.Equal(second, kept) || !slices.Equal(pointsOf(t, c), kept) {
			t.Fatalf("the points of %v have changed with an earlier answer", c)
		}
	}
}
