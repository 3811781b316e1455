package torsion_test

import (
	"cmp"
	"math/big"
	"slices"
	"testing"

	"arithmetica/api"
	"arithmetica/sample"
	"arithmetica/torsion"
)

const (
	bounds = 1000 // the greatest size of a and b
	mazur  = 12   // the greatest order that there is
)

var (
	none api.Fault
	far  = api.Point{Far: true}
)

func faultOf(code, at int) api.Fault { return api.Fault{Code: code, At: at} }

func at(x, y int) api.Point { return api.Point{X: x, Y: y} }

func size(n int) int { return max(n, -n) }

func gcd(a, b int) int {
	return int(new(big.Int).GCD(nil, nil, big.NewInt(int64(a)), big.NewInt(int64(b))).Int64())
}

// pair is the a and b of a curve.
type pair struct{ a, b int }

func (c pair) value(x int) int { return x*x*x + c.a*x + c.b }

func (c pair) measure() int { return 4*c.a*c.a*c.a + 27*c.b*c.b }

// isCurve tells whether Check must say nothing.
func (c pair) isCurve() bool {
	return size(c.a) <= bounds && size(c.b) <= bounds && c.measure() != 0
}

// beside answers all whole x with x^3 + a x + b = y^2, rising. From reach on, x^3 is greater than all else together.
func (c pair) beside(y int) []int {
	reach := 1
	for reach*reach*reach <= size(c.a)*reach+size(c.b)+y*y {
		reach++
	}
	var list []int
	for x := -reach; x <= reach; x++ {
		if c.value(x) == y*y {
			list = append(list, x)
		}
	}
	return list
}

// left answers all points but Far that Nagell and Lutz leave, by X, then by Y.
func (c pair) left() []api.Point {
	most := size(c.measure())
	var list []api.Point
	for y := 0; y*y <= most; y++ {
		if y > 0 && most%(y*y) != 0 {
			continue
		}
		for _, x := range c.beside(y) {
			list = append(list, at(x, y))
			if y > 0 {
				list = append(list, at(x, -y))
			}
		}
	}
	slices.SortFunc(list, func(q, r api.Point) int { return cmp.Or(q.X-r.X, q.Y-r.Y) })
	return list
}

// tried answers Far, and then those points that are left whose multiples come to Far.
func (c pair) tried(t *testing.T) []api.Point {
	t.Helper()
	list := []api.Point{far}
	for _, q := range c.left() {
		order, whole := c.order(spotOf(q))
		if order == 0 && whole {
			t.Fatalf("the first multiples of %v on %v tell nothing", q, c)
		}
		if order > 0 {
			list = append(list, q)
		}
	}
	return list
}

// smallCurves answers all curves with a and b up to most in size.
func smallCurves(most int) []pair {
	var list []pair
	for a := -most; a <= most; a++ {
		for b := -most; b <= most; b++ {
			list = append(list, pair{a, b})
		}
	}
	return slices.DeleteFunc(list, func(c pair) bool { return !c.isCurve() })
}

// edgeCurves answers all curves with a and b at the edges of their bounds and beside them, and about 0.
func edgeCurves() []pair {
	edges := []int{-1000, -999, -998, -1, 0, 1, 998, 999, 1000}
	var list []pair
	for _, a := range edges {
		for _, b := range edges {
			list = append(list, pair{a, b})
		}
	}
	return slices.DeleteFunc(list, func(c pair) bool { return !c.isCurve() })
}

// drawnCurves answers about so many curves, half of them with an a and a b of any length.
func drawnCurves(many int) []pair {
	s := sample.NewStream()
	var list []pair
	for range many / 2 {
		list = append(list, pair{s.UpTo(bounds), s.UpTo(bounds)}, pair{s.Below(2*bounds+1) - bounds, s.Below(2*bounds+1) - bounds})
	}
	return slices.DeleteFunc(list, func(c pair) bool { return !c.isCurve() })
}

func pointsOf(t *testing.T, c pair) []api.Point {
	t.Helper()
	list, f := torsion.Points(c.a, c.b)
	if f != none || len(list) == 0 {
		t.Fatalf("Points of %v: %v, %v", c, list, f)
	}
	return list
}

func checkPoints(t *testing.T, c pair, want []api.Point) {
	t.Helper()
	if list := pointsOf(t, c); !slices.Equal(list, want) {
		t.Fatalf("Points of %v: %v, want %v", c, list, want)
	}
}

func shapeOf(t *testing.T, c pair) [2]int {
	t.Helper()
	n1, n2, f := torsion.Shape(c.a, c.b)
	if f != none || n1 < 1 || n2 < 1 {
		t.Fatalf("Shape of %v: %d, %d, %v", c, n1, n2, f)
	}
	return [2]int{n1, n2}
}
