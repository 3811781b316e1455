package torsion_test

import (
	"slices"
	"testing"

	"arithmetica/api"
	"arithmetica/curve"
)

// isOfMazursList tells whether a shape is one of those that there are.
func isOfMazursList(shape [2]int) bool {
	n1, n2 := shape[0], shape[1]
	switch n1 {
	case 1:
		return n2 >= 1 && n2 <= 10 || n2 == 12
	case 2:
		return n2 == 2 || n2 == 4 || n2 == 6 || n2 == 8
	}
	return false
}

// checkByOrders: as each point is one i Q + j R, and the orders of Q and R are n1 and n2, those that are Far when they are taken d times are as many as such i, times such j; and that for each d holds of one shape alone.
func checkByOrders(t *testing.T, c pair) [2]int {
	t.Helper()
	shape, all := shapeOf(t, c), pointsOf(t, c)
	n1, n2 := shape[0], shape[1]
	if n1*n2 != len(all) || n2%n1 != 0 || !isOfMazursList(shape) {
		t.Fatalf("Shape of %v: %v, of %d points", c, shape, len(all))
	}
	far := make([]int, mazur+1)
	for _, q := range all {
		order, _ := c.order(spotOf(q))
		for d := order; order > 0 && d <= mazur; d += order {
			far[d]++
		}
	}
	for d := 1; d <= mazur; d++ {
		if far[d] != gcd(d, n1)*gcd(d, n2) {
			t.Fatalf("Shape of %v: %v; but %d points are Far when they are taken %d times", c, shape, far[d], d)
		}
	}
	return shape
}

// TestShapeByTheOrdersOfAllPoints: of all curves with a point of the order 2, 3 or 4, too, where all shapes are met that there are within the bounds, but 1, 7.
func TestShapeByTheOrdersOfAllPoints(t *testing.T) {
	met := map[[2]int]int{}
	for _, c := range slices.Concat(edgeCurves(), drawnCurves(10000), curvesOf(ofOrderTwo(), ofOrderThree(), ofOrderFour())) {
		met[checkByOrders(t, c)]++
	}
	for _, shape := range [][2]int{{1, 1}, {1, 2}, {1, 3}, {1, 4}, {1, 6}, {2, 2}} {
		if met[shape] == 0 {
			t.Errorf("no curve of the shape %v was met: %v", shape, met)
		}
	}
}

func TestShapeOfAllSmallCurves(t *testing.T) {
	met := map[[2]int]int{}
	for _, c := range smallCurves(170) {
		met[checkByOrders(t, c)]++
	}
	if met[[2]int{1, 7}] != 1 {
		t.Errorf("these shapes were met: %v", met)
	}
}

// span tells whether each point is just one i q + j r, i below n1, j below n2, where n1 n2 is how many there are.
func (c pair) span(n1, n2 int, q, r api.Point) bool {
	seen := map[api.Point]bool{}
	first := far
	for range n1 {
		at := first
		for range n2 {
			if seen[at] {
				return false
			}
			seen[at] = true
			at, _ = c.add(at, r)
		}
		first, _ = c.add(first, q)
	}
	return true
}

// hasOrders tells whether q and r are Far first when they are taken n1 and n2 times.
func (c pair) hasOrders(n1, n2 int, q, r api.Point) bool {
	one, _ := c.order(spotOf(q))
	two, _ := c.order(spotOf(r))
	return one == n1 && two == n2
}

// shapes answers all n1 and n2 as chapter 14's sentence has them, and those of them for which there are a Q and an R of just these orders.
func (c pair) shapes(all []api.Point) (fit, round [][2]int) {
	for n1 := 1; n1 <= len(all); n1++ {
		n2 := len(all) / n1
		if n1*n2 != len(all) || n2%n1 != 0 {
			continue
		}
		fits, rounds := false, false
		for _, q := range all {
			for _, r := range all {
				spans := c.span(n1, n2, q, r)
				fits = fits || spans
				rounds = rounds || spans && c.hasOrders(n1, n2, q, r)
			}
		}
		if fits {
			fit = append(fit, [2]int{n1, n2})
		}
		if rounds {
			round = append(round, [2]int{n1, n2})
		}
	}
	return fit, round
}

// TestShapeByTryingAllPairsOfPoints: chapter 14's sentence word by word. Where several n1 and n2 are so, as 1, 4 and 2, 2 of the curve 4, 0, the one with the greatest n2 is asked for, and it alone has a Q and an R whose orders are n1 and n2.
func TestShapeByTryingAllPairsOfPoints(t *testing.T) {
	several := 0
	for _, c := range slices.Concat(smallCurves(15), []pair{{-43, 166}}, curvesOf(ofOrderThree(), ofOrderFour())) {
		fit, round := c.shapes(c.tried(t))
		if len(round) != 1 || round[0] != fit[0] {
			t.Fatalf("%v has the shapes %v, and with such orders %v", c, fit, round)
		}
		if shape := shapeOf(t, c); shape != round[0] {
			t.Fatalf("Shape of %v: %v, want %v", c, shape, round[0])
		}
		several += len(fit) - 1
	}
	if several == 0 {
		t.Errorf("no curve was met with several")
	}
}

// TestShapeByAPrime: by a prime that does not divide 4 a^3 + 27 b^2 the points of finite order are among all, so that n1 and n2 divide what chapter 14's Shape tells.
func TestShapeByAPrime(t *testing.T) {
	for _, c := range slices.Concat(smallCurves(8), edgeCurves(), []pair{{-43, 166}}, curvesOf(ofOrderThree(), ofOrderFour())) {
		shape := shapeOf(t, c)
		for _, p := range []int{5, 7, 11, 13, 17, 101} {
			a, b, ok := c.byPrime(p)
			if !ok {
				continue
			}
			if n1, n2, f := curve.Shape(p, a, b); n1%shape[0] != 0 || n2%shape[1] != 0 || f != none {
				t.Fatalf("Shape of %v: %v, but by %d: %d, %d, %v", c, shape, p, n1, n2, f)
			}
		}
	}
}

func TestShapeOfChosenCurves(t *testing.T) {
	for _, c := range []struct {
		pair
		want [2]int
	}{
		{pair{-1, 0}, [2]int{2, 2}},
		{pair{0, 1}, [2]int{1, 6}},
		{pair{4, 0}, [2]int{1, 4}},
		{pair{-43, 166}, [2]int{1, 7}},
		{pair{0, 2}, [2]int{1, 1}},
		{pair{1, 0}, [2]int{1, 2}},
		{pair{0, 4}, [2]int{1, 3}},
		{pair{0, -432}, [2]int{1, 3}},
		{pair{0, 961}, [2]int{1, 3}},
		{pair{0, 729}, [2]int{1, 6}},
		{pair{93, 94}, [2]int{1, 6}},
		{pair{-387, 766}, [2]int{1, 6}},
		{pair{-842, 29}, [2]int{1, 4}},
		{pair{-961, 0}, [2]int{2, 2}},
		{pair{-993, -992}, [2]int{2, 2}},
		{pair{-993, 992}, [2]int{2, 2}},
		{pair{0, 1000}, [2]int{1, 2}},
		{pair{0, -1000}, [2]int{1, 2}},
		{pair{1000, 0}, [2]int{1, 2}},
		{pair{-1000, 0}, [2]int{1, 2}},
		{pair{1000, 1000}, [2]int{1, 1}},
		{pair{1000, -1000}, [2]int{1, 1}},
		{pair{-1000, 1000}, [2]int{1, 1}},
		{pair{-1000, -1000}, [2]int{1, 1}},
		{pair{999, 1000}, [2]int{1, 2}},
	} {
		if shape := shapeOf(t, c.pair); shape != c.want {
			t.Errorf("Shape of %v: %v, want %v", c.pair, shape, c.want)
		}
	}
}
