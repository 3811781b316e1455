package curve_test

import (
	"testing"

	"arithmetica/api"
	"arithmetica/curve"
)

func shapeOf(t *testing.T, c triple) (n1, n2 int) {
	t.Helper()
	n1, n2, f := curve.Shape(c.p, c.a, c.b)
	if f != none || n1 < 1 || n2 < 1 {
		t.Fatalf("Shape of %v: %d, %d, %v", c, n1, n2, f)
	}
	return n1, n2
}

// span tells whether each point is just one i q + j r, i below n1, j below n2, where n1 n2 is how many there are.
func (c chords) span(n1, n2 int, q, r api.Point) bool {
	seen := map[api.Point]bool{}
	first := far
	for range n1 {
		sum := first
		for range n2 {
			if seen[sum] {
				return false
			}
			seen[sum] = true
			sum = c.sum(sum, r)
		}
		first = c.sum(first, q)
	}
	return true
}

// spans answers whether there are two such points, and whether there are such ones that are Far when they are taken n1 and n2 times.
func (c chords) spans(n1, n2 int, all []api.Point) (fits, round bool) {
	for _, q := range all {
		for _, r := range all {
			if c.span(n1, n2, q, r) {
				fits = true
				round = round || len(c.multiples(q)) == n1 && len(c.multiples(r)) == n2
			}
			if fits && round {
				return fits, round
			}
		}
	}
	return fits, round
}

// TestShapeByTryingAllPairsOfPoints: P14.3 word by word. Where several n1 and n2 are so, as 1, 9 and 3, 3 for the chapter's own curve of nine points, the one with the greatest n2 is asked for, and it alone has a Q and an R whose orders are n1 and n2.
func TestShapeByTryingAllPairsOfPoints(t *testing.T) {
	met := map[[2]int]int{}
	several := 0
	for _, small := range smallCurves(13) {
		c, all := chordsOf(small), small.tried()
		var fit, round [][2]int
		for n1 := 1; n1 <= len(all); n1++ {
			n2 := len(all) / n1
			if n1*n2 != len(all) || n2%n1 != 0 {
				continue
			}
			anyFit, anyRound := c.spans(n1, n2, all)
			if anyFit {
				fit = append(fit, [2]int{n1, n2})
			}
			if anyRound {
				round = append(round, [2]int{n1, n2})
			}
		}
		if len(round) != 1 || round[0] != fit[0] {
			t.Fatalf("%v has the shapes %v, and with such orders %v", small, fit, round)
		}
		checkShape(t, small, fit[0][0], fit[0][1])
		met[fit[0]]++
		several += len(fit) - 1
	}
	for _, shape := range [][2]int{{1, 2}, {1, 4}, {1, 9}, {1, 16}, {1, 21}, {2, 2}, {2, 4}, {2, 10}, {3, 3}, {3, 6}, {4, 4}} {
		if met[shape] == 0 {
			t.Errorf("no curve of the shape %v was met: %v", shape, met)
		}
	}
	if several == 0 {
		t.Errorf("no curve was met with several")
	}
}

// orders answers how often each order is there. All multiples of a point are told with it: of n multiples, the k-th comes to Far after n over the greatest divisor of k and n.
func (c chords) orders(all []api.Point) map[int]int {
	many, seen := map[int]int{}, map[api.Point]bool{}
	for _, q := range all {
		if seen[q] {
			continue
		}
		list := c.multiples(q)
		for k, r := range list {
			if !seen[r] {
				seen[r] = true
				many[len(list)/gcd(k, len(list))]++
			}
		}
	}
	return many
}

// checkByOrders: as each point is one i Q + j R, and the orders of Q and R are n1 and n2, those that are Far when they are taken d times are as many as such i, times such j; and that for each d that divides how many there are holds of one shape alone.
func checkByOrders(t *testing.T, c triple, all []api.Point) {
	t.Helper()
	n1, n2 := shapeOf(t, c)
	if n1*n2 != len(all) || n2%n1 != 0 || (c.p-1)%n1 != 0 {
		t.Fatalf("Shape of %v: %d, %d, of %d points", c, n1, n2, len(all))
	}
	orders := chordsOf(c).orders(all)
	for d := 1; d <= len(all); d++ {
		if len(all)%d != 0 {
			continue
		}
		many := 0
		for order, times := range orders {
			if d%order == 0 {
				many += times
			}
		}
		if many != gcd(d, n1)*gcd(d, n2) {
			t.Fatalf("Shape of %v: %d, %d; but %d points are Far when they are taken %d times", c, n1, n2, many, d)
		}
	}
}

func TestShapeByTheOrdersOfAllPoints(t *testing.T) {
	for _, c := range smallCurves(43) {
		checkByOrders(t, c, c.tried())
	}
	for _, c := range greatCurves(100) {
		checkByOrders(t, c, pointsOf(t, c))
	}
}

// TestShapeOfCurvesWithManyAlike: p is n^2 + n + 1, where a of 0 has curves with n and n, and with n + 1 and n + 1.
func TestShapeOfCurvesWithManyAlike(t *testing.T) {
	for _, n := range []int{2, 3, 5, 6, 8, 12, 14, 15, 17, 20, 21, 24, 27, 33, 38, 41} {
		p := n*n + n + 1
		met := map[[2]int]int{}
		for b := 1; b < min(p, 60); b++ {
			c := triple{p, 0, b}
			checkByOrders(t, c, pointsOf(t, c))
			n1, n2 := shapeOf(t, c)
			met[[2]int{n1, n2}]++
		}
		if met[[2]int{n, n}] == 0 || met[[2]int{n + 1, n + 1}] == 0 {
			t.Errorf("of %d only these were met: %v", p, met)
		}
	}
}

func TestShapeOfChosenCurves(t *testing.T) {
	for _, c := range []struct {
		triple
		n1, n2 int
	}{
		{triple{5, 1, 1}, 1, 9},
		{triple{7, 0, 2}, 3, 3},
		{triple{5, 2, 0}, 1, 2},
		{triple{5, 4, 0}, 2, 4},
		{triple{5, 0, 4}, 1, 6},
		{triple{7, 0, 4}, 1, 3},
		{triple{7, 0, 6}, 2, 2},
		{triple{97, 2, 3}, 2, 50},
		{triple{37, 36, 3}, 1, 42},
		{triple{29, 28, 1}, 1, 37},
		{triple{31, 0, 11}, 5, 5},
		{triple{31, 0, 1}, 6, 6},
		{triple{1723, 0, 1}, 42, 42},
		{triple{1723, 0, 17}, 41, 41},
		{triple{1951, 0, 1}, 26, 78},
		{triple{1993, 6, 7}, 8, 240},
		{triple{1997, 0, 1}, 1, 1998},
		{triple{1997, 1996, 1996}, 1, 2076},
		{triple{greatest, 0, 1}, 6, 342},
		{triple{greatest, 1, 0}, 1, 2000},
		{triple{greatest, 1998, 0}, 2, 1000},
		{triple{greatest, 0, 1998}, 2, 974},
		{triple{greatest, 1, 1}, 1, 1972},
		{triple{greatest, 1, 1998}, 1, 2028},
		{triple{greatest, 1998, 1}, 1, 1948},
		{triple{greatest, 1998, 1998}, 1, 2052},
	} {
		checkShape(t, c.triple, c.n1, c.n2)
	}
}
