package curve_test

import (
	"testing"

	"arithmetica/api"
	"arithmetica/curve"
	"arithmetica/sample"
)

func TestTimesIsAddingOneByOne(t *testing.T) {
	for _, small := range smallCurves(13) {
		c := chordsOf(small)
		for _, q := range small.tried() {
			up, down := far, far
			opposite := at(q.X, rest(-q.Y, c.p))
			opposite.Far = q.Far
			for n := range 2*c.p + 10 {
				checkTimes(t, small, n, q, up)
				checkTimes(t, small, -n, q, down)
				up, down = c.sum(up, q), c.sum(down, opposite)
			}
		}
	}
}

// TestTimesBelowNoughtIsTheOpposite: the point that is Far when it is added to Times of -n.
func TestTimesBelowNoughtIsTheOpposite(t *testing.T) {
	s := sample.NewStream()
	for _, c := range greatCurves(20) {
		for _, q := range picked(s, c, pointsOf(t, c), 5) {
			for _, n := range append(sample.Positive(10), 1, 2, 3) {
				forth, f1 := curve.Times(c.p, c.a, c.b, n, q)
				back, f2 := curve.Times(c.p, c.a, c.b, -n, q)
				if f1 != none || f2 != none {
					t.Fatalf("Times of %v, %d and %v: %v, %v", c, n, q, f1, f2)
				}
				checkAdd(t, c, forth, back, far)
			}
		}
	}
}

// turns are numbers at and beside those after which the multiples of a point come again, and great ones.
func turns(order int) []int {
	list := sample.Numbers(40)
	for _, n := range []int{0, order, 2 * order, order * order, top / order * order, order * 1000003} {
		list = append(list, n-1, n, n+1, 1-n, -n, -n-1)
	}
	return append(list, top-1, top, 1-top, -top)
}

func TestTimesAtTheOrderAndAtGreatNumbers(t *testing.T) {
	s := sample.NewStream()
	for _, each := range append(smallCurves(7), greatCurves(20)...) {
		c := chordsOf(each)
		for _, q := range picked(s, each, pointsOf(t, each), 5) {
			list := c.multiples(q)
			for _, n := range turns(len(list)) {
				if n <= top && n >= -top {
					checkTimes(t, each, n, q, multiple(list, n))
				}
			}
		}
	}
}

// TestTimesOfSums: n and m times a point, added, are n + m times it, and n times m times it are n m times it.
func TestTimesOfSums(t *testing.T) {
	s := sample.NewStream()
	times := func(c triple, n int, q api.Point) api.Point {
		answer, f := curve.Times(c.p, c.a, c.b, n, q)
		if f != none {
			t.Fatalf("Times of %v, %d and %v: %v", c, n, q, f)
		}
		return answer
	}
	for _, c := range greatCurves(40) {
		for _, q := range picked(s, c, pointsOf(t, c), 3) {
			n, m := s.UpTo(top/2), s.UpTo(top/2)
			checkTimes(t, c, n+m, q, add(t, c, times(c, n, q), times(c, m, q)))
			n, m = s.UpTo(1000000000), s.UpTo(1000000000)
			checkTimes(t, c, n*m, q, times(c, n, times(c, m, q)))
		}
	}
}

func TestTimesOfChosenNumbers(t *testing.T) {
	for _, c := range []struct {
		triple
		n       int
		q, want api.Point
	}{
		{triple{5, 1, 1}, 0, at(0, 1), far},
		{triple{5, 1, 1}, 1, at(0, 1), at(0, 1)},
		{triple{5, 1, 1}, 2, at(0, 1), at(4, 2)},
		{triple{5, 1, 1}, 8, at(0, 1), at(0, 4)},
		{triple{5, 1, 1}, 9, at(0, 1), far},
		{triple{5, 1, 1}, 10, at(0, 1), at(0, 1)},
		{triple{5, 1, 1}, -1, at(0, 1), at(0, 4)},
		{triple{5, 1, 1}, -2, at(0, 1), at(4, 3)},
		{triple{5, 1, 1}, -9, at(0, 1), far},
		{triple{5, 1, 1}, top, at(0, 1), at(0, 1)}, // 10 leaves 1 by 9
		{triple{5, 1, 1}, -top, at(0, 1), at(0, 4)},
		{triple{5, 1, 1}, top - 1, at(0, 1), far},
		{triple{5, 1, 1}, top, far, far},
		{triple{5, 1, 1}, -top, far, far},
		{triple{5, 1, 1}, 0, far, far},
		{triple{5, 1, 1}, -1, far, far},
		{triple{5, 2, 0}, top, at(0, 0), far},
		{triple{5, 2, 0}, 1 - top, at(0, 0), at(0, 0)},
		{triple{97, 2, 3}, 3, at(3, 6), at(80, 87)},
		{triple{97, 2, 3}, 4, at(3, 6), at(3, 91)},
		{triple{97, 2, 3}, 5, at(3, 6), far},
		{triple{97, 2, 3}, -3, at(3, 6), at(80, 10)},
		{triple{greatest, 0, 1}, 5, at(2, 3), at(2, 1996)},
		{triple{greatest, 0, 1}, top, at(2, 3), at(0, 1998)}, // 10^18 leaves 4 by 6
		{triple{greatest, 0, 1}, -top, at(2, 3), at(0, 1)},
	} {
		checkTimes(t, c.triple, c.n, c.q, c.want)
	}
}
