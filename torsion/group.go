package torsion

import (
	"arithmetica/api"
	"arithmetica/whole"
)

// Beyond these X^3 + a X + b is below 0, or above the size of each measure, for all a and b up to mostSize in size: -33^3 + 33 * 1000 + 1000 is below 0, and 1600^3 - 1600 * 1000 - 1000 is above 4 * 1000^3 + 27 * 1000^2.
const (
	leastX = -32
	mostX  = 1599
)

// group is a curve of which Check says nothing, with its measure.
type group struct{ a, b, measure int }

func groupOf(a, b int) group { return group{a, b, measure(a, b)} }

// measure answers what the square of each Y divides that is not 0, of points of finite order (Nagell and Lutz).
func measure(a, b int) int { return 4*a*a*a + 27*b*b }

// each hands over all points of finite order, and their orders: Far first, the others by X, then by Y.
func (g group) each(do func(q api.Point, order int)) {
	do(api.Point{Far: true}, 1)
	g.eachLikely(func(q api.Point) {
		if order, ok := g.order(q); ok {
			do(q, order)
		}
	})
}

// eachLikely hands over, by X, then by Y, all points but Far that Nagell and Lutz leave.
func (g group) eachLikely(do func(q api.Point)) {
	for x := leastX; x <= mostX; x++ {
		y, ok := g.likelyY(x)
		if ok && y > 0 {
			do(api.Point{X: x, Y: -y})
		}
		if ok {
			do(api.Point{X: x, Y: y})
		}
	}
}

// likelyY answers the Y from 0 on beside x, and whether Nagell and Lutz leave one.
func (g group) likelyY(x int) (y int, ok bool) {
	if x < leastX || x > mostX {
		return 0, false
	}
	square := x*x*x + g.a*x + g.b
	if square == 0 {
		return 0, true
	}
	// To divide comes first: that leaves few of which to take the root.
	if square < 0 || g.measure%square != 0 {
		return 0, false
	}
	y, _ = whole.Root(square, 2)
	return y, y*y == square
}

// order answers the least n above 0 for which q, which is not Far, is Far when it is added to Far n times, and whether there is one.
//
// This ends: the likely points are not many, so that without Far one of them would come again; but as points are a group, the first multiple of q that comes again is q itself, and Far comes ahead of it.
func (g group) order(q api.Point) (n int, ok bool) {
	n = 1
	for sum := q; !sum.Far; n++ {
		if sum, ok = g.add(sum, q); !ok {
			return 0, false
		}
	}
	return n, true
}

// add answers q and r, likely points, added, and whether that may be of finite order: it is Far, or a likely point.
func (g group) add(q, r api.Point) (sum api.Point, ok bool) {
	if q.X == r.X && q.Y == -r.Y {
		return api.Point{Far: true}, true
	}
	up, down := r.Y-q.Y, r.X-q.X
	if q == r {
		up, down = 3*q.X*q.X+g.a, 2*q.Y
	}
	// Only of a whole k the square is whole, and with it the X.
	if up%down != 0 {
		return api.Point{}, false
	}
	k := up / down
	x := k*k - q.X - r.X
	// A likely X comes first, so that nothing wraps round in Y.
	if _, ok := g.likelyY(x); !ok {
		return api.Point{}, false
	}
	return api.Point{X: x, Y: k*(q.X-x) - q.Y}, true
}
