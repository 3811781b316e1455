package torsion_test

import (
	"cmp"
	"maps"
	"slices"
	"testing"

	"arithmetica/api"
)

// A family is all curves within the bounds that have a point of some order, with all those points. They are made from the point, so that nothing is looked for on a curve.

// ofOrderTwo: a root e of X^3 + a X + b, with Y of 0, and any a tell b. No root is above 32 in size: 33^3 is greater than 33 * 1000 + 1000.
func ofOrderTwo() map[pair][]api.Point {
	family := map[pair][]api.Point{}
	for e := -33; e <= 33; e++ {
		for a := -bounds; a <= bounds; a++ {
			put(family, pair{a, -e*e*e - a*e}, at(e, 0))
		}
	}
	return family
}

// ofOrderThree: q and q are the opposite of q, so that k^2 = 3 X, and k = 3 n, X = 3 n^2 for a whole n. With 3 X^2 + a = 2 k Y that tells a, and then b. No n above 3 in size has both within the bounds, as b is a^2 / (36 n^2) - 3/2 a n^2 - 27/4 n^6; and up to 3 no Y of such an a is above 200.
func ofOrderThree() map[pair][]api.Point {
	family := map[pair][]api.Point{}
	for n := -6; n <= 6; n++ {
		for y := -2000; y <= 2000; y++ {
			x, a := 3*n*n, 6*n*y-27*n*n*n*n
			if y != 0 {
				put(family, pair{a, y*y - x*x*x - a*x}, at(x, y))
			}
		}
	}
	return family
}

// ofOrderFour: q and q are some e, 0, so that k^2 = 2 X + e and Y = k u, where u = X - e; then 3 e = k^2 - 2 u. As X is from -32 to 1599, and e from -32 to 32, no k is above 57 in size, and u is from -64 to 1631.
func ofOrderFour() map[pair][]api.Point {
	family := map[pair][]api.Point{}
	for k := -60; k <= 60; k++ {
		for u := -100; u <= 1700; u++ {
			if k*u == 0 || (k*k-2*u)%3 != 0 {
				continue
			}
			e := (k*k - 2*u) / 3
			x := e + u
			a := k*k*u - x*x - x*e - e*e
			put(family, pair{a, -e*e*e - a*e}, at(x, k*u))
		}
	}
	return family
}

func put(family map[pair][]api.Point, c pair, q api.Point) {
	if c.isCurve() {
		family[c] = append(family[c], q)
	}
}

// curvesOf answers the curves of all families, each once, by a, then by b.
func curvesOf(families ...map[pair][]api.Point) []pair {
	all := map[pair]bool{}
	for _, family := range families {
		for c := range family {
			all[c] = true
		}
	}
	return slices.SortedFunc(maps.Keys(all), func(c, d pair) int { return cmp.Or(c.a-d.a, c.b-d.b) })
}

// TestFamiliesAreTheirPoints: Points has all points of a family on its curves, and on no curve others of that order.
func TestFamiliesAreTheirPoints(t *testing.T) {
	families := map[int]map[pair][]api.Point{2: ofOrderTwo(), 3: ofOrderThree(), 4: ofOrderFour()}
	for _, c := range slices.Concat(smallCurves(60), edgeCurves(), drawnCurves(10000), curvesOf(families[2], families[3], families[4])) {
		byOrder := map[int][]api.Point{}
		for _, q := range pointsOf(t, c) {
			order, _ := c.order(spotOf(q))
			byOrder[order] = append(byOrder[order], q)
		}
		for order, family := range families {
			want := slices.SortedFunc(slices.Values(family[c]), func(q, r api.Point) int { return cmp.Or(q.X-r.X, q.Y-r.Y) })
			if !slices.Equal(byOrder[order], want) {
				t.Fatalf("the points of the order %d of %v: %v, want %v", order, c, byOrder[order], want)
			}
		}
	}
}

// TestTheGreatestXAndY: of all curves with a point of the order 2, 3 or 4, these have the points that are farthest out.
func TestTheGreatestXAndY(t *testing.T) {
	leastX, mostX, mostY := 0, 0, 0
	for _, c := range curvesOf(ofOrderTwo(), ofOrderThree(), ofOrderFour()) {
		for _, q := range pointsOf(t, c) {
			leastX, mostX, mostY = min(leastX, q.X), max(mostX, q.X), max(mostY, q.Y)
		}
	}
	if leastX != -32 || mostX != 70 || mostY != 533 {
		t.Errorf("X from %d to %d, Y up to %d", leastX, mostX, mostY)
	}
	checkPoints(t, pair{-995, 928}, []api.Point{far, at(-32, 0)})
	checkPoints(t, pair{-842, 29}, []api.Point{far, at(29, 0), at(70, -533), at(70, 533)})
}
