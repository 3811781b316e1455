package curve

import (
	"math/bits"

	"arithmetica/api"
	"arithmetica/modulo"
	"arithmetica/whole"
)

// group is a curve of which Check says nothing. As p is at most MaxTiny, an int holds all that is reckoned in between.
type group struct{ p, a, b int }

// has tells whether q is a point of the curve.
func (g group) has(q api.Point) bool {
	if q.Far {
		return q.X == 0 && q.Y == 0
	}
	// The range comes first, so that nothing wraps round in what follows.
	if q.X < 0 || q.X >= g.p || q.Y < 0 || q.Y >= g.p {
		return false
	}
	return q.Y*q.Y%g.p == g.square(q.X)
}

// square answers what the square of Y must leave beside x.
func (g group) square(x int) int {
	return (x*x*x + g.a*x + g.b) % g.p
}

// points answers all points: Far first, the others by X, then by Y. The Ys are laid out by their squares once, which is quicker than to look for roots beside each X.
func (g group) points() []api.Point {
	roots := make([][]int, g.p)
	for y := range g.p {
		square := y * y % g.p
		roots[square] = append(roots[square], y)
	}
	list := []api.Point{{Far: true}}
	for x := range g.p {
		for _, y := range roots[g.square(x)] {
			list = append(list, api.Point{X: x, Y: y})
		}
	}
	return list
}

func (g group) add(q, r api.Point) api.Point {
	switch {
	case q.Far:
		return r
	case r.Far:
		return q
	case q.X == r.X && (q.Y+r.Y)%g.p == 0:
		return api.Point{Far: true}
	}
	k := g.slope(q, r)
	x := modulo.Left(k*k-q.X-r.X, g.p)
	return api.Point{X: x, Y: modulo.Left(k*(q.X-x)-q.Y, g.p)}
}

// slope answers the k of q and r, neither of which is Far, and which are not so that Far comes out.
func (g group) slope(q, r api.Point) int {
	up, down := r.Y-q.Y, r.X-q.X
	if q == r {
		up, down = 3*q.X*q.X+g.a, 2*q.Y
	}
	inverse, _ := whole.Inverse(down, g.p)
	return modulo.Left(up*inverse, g.p)
}

// opposite answers the point that is Far when it is added to q.
func (g group) opposite(q api.Point) api.Point {
	q.Y = modulo.Left(-q.Y, g.p)
	return q
}

// times doubles bit by bit, so that the number of steps is that of n's bits.
func (g group) times(n int, q api.Point) api.Point {
	if n < 0 {
		n, q = -n, g.opposite(q)
	}
	answer := api.Point{Far: true}
	for i := range bits.Len64(uint64(n)) {
		if n>>i&1 == 1 {
			answer = g.add(answer, q)
		}
		q = g.add(q, q)
	}
	return answer
}

// order adds one by one: an order is at most how many points there are, and by Hasse's bound these are not many more than p.
func (g group) order(q api.Point) int {
	n := 1
	for sum := q; !sum.Far; sum = g.add(sum, q) {
		n++
	}
	return n
}

// exponent answers the least n above 0 for which each of the points, taken n times, is Far. Where a point, taken as often as those ahead of it need, is not Far yet, the order of what it is then is what n lacks.
func (g group) exponent(points ...api.Point) int {
	n := 1
	for _, q := range points {
		n *= g.order(g.times(n, q))
	}
	return n
}
