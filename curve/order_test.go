package curve_test

import (
	"testing"

	"arithmetica/api"
	"arithmetica/curve"
	"arithmetica/sample"
)

func TestOrderOnSmallCurves(t *testing.T) {
	for _, small := range smallCurves(31) {
		c := chordsOf(small)
		for _, q := range small.tried() {
			checkOrder(t, small, q, len(c.multiples(q)))
		}
	}
}

func TestOrderOnGreatCurves(t *testing.T) {
	s := sample.NewStream()
	for i, great := range greatCurves(30) {
		c, some := chordsOf(great), pointsOf(t, great)
		if i > 1 {
			some = picked(s, great, some, 40)
		}
		for _, q := range some {
			checkOrder(t, great, q, len(c.multiples(q)))
		}
	}
}

// TestOrderIsTheLeastForWhichTimesTellsFar: by Times itself, and all orders divide how many points there are.
func TestOrderIsTheLeastForWhichTimesTellsFar(t *testing.T) {
	for _, c := range smallCurves(13) {
		all := pointsOf(t, c)
		for _, q := range all {
			least := 1
			for {
				if r, f := curve.Times(c.p, c.a, c.b, least, q); f != none || r == far {
					break
				}
				least++
			}
			checkOrder(t, c, q, least)
			if len(all)%least != 0 {
				t.Fatalf("the order of %v on %v is %d, of %d points", q, c, least, len(all))
			}
		}
	}
}

func TestOrderOfChosenPoints(t *testing.T) {
	for _, c := range []struct {
		triple
		q    api.Point
		want int
	}{
		{triple{5, 1, 1}, far, 1},
		{triple{5, 1, 1}, at(0, 1), 9},
		{triple{5, 1, 1}, at(2, 1), 3},
		{triple{5, 2, 0}, far, 1},
		{triple{5, 2, 0}, at(0, 0), 2},
		{triple{5, 4, 0}, at(4, 0), 2},
		{triple{5, 4, 0}, at(2, 1), 4},
		{triple{7, 0, 2}, at(6, 6), 3},
		{triple{97, 2, 3}, at(3, 6), 5},
		{triple{97, 2, 3}, at(0, 10), 50},
		{triple{37, 36, 3}, at(2, 3), 7},
		{triple{37, 36, 3}, at(36, 22), 42},
		{triple{29, 28, 1}, at(28, 28), 37},
		{triple{greatest, 0, 1}, far, 1},
		{triple{greatest, 0, 1}, at(0, 1), 3},
		{triple{greatest, 0, 1}, at(2, 3), 6},
		{triple{greatest, 0, 1}, at(1998, 0), 2},
		{triple{greatest, 1998, 1998}, at(2, 100), 19},
		{triple{greatest, 1998, 1998}, at(1997, 1318), 2052},
		{triple{greatest, 1998, 1}, at(0, 1), 1948},
		{triple{greatest, 1, 0}, at(1996, 1139), 1000},
		{triple{1997, 1996, 1996}, at(0, 412), 173},
	} {
		checkOrder(t, c.triple, c.q, c.want)
	}
}
