package torsion_test

import (
	"math/big"

	"arithmetica/api"
)

// spot is a point of fractions.
type spot struct {
	x, y *big.Rat
	far  bool
}

func rat(n int) *big.Rat { return big.NewRat(int64(n), 1) }

func spotOf(q api.Point) spot { return spot{rat(q.X), rat(q.Y), q.Far} }

func plus(x, y *big.Rat) *big.Rat  { return new(big.Rat).Add(x, y) }
func minus(x, y *big.Rat) *big.Rat { return new(big.Rat).Sub(x, y) }
func times(x, y *big.Rat) *big.Rat { return new(big.Rat).Mul(x, y) }
func over(x, y *big.Rat) *big.Rat  { return new(big.Rat).Quo(x, y) }

func power(x *big.Rat, n int) *big.Rat {
	answer := rat(1)
	for range n {
		answer.Mul(answer, x)
	}
	return answer
}

func (q spot) isWhole() bool { return q.far || q.x.IsInt() && q.y.IsInt() }

// point answers q, which is whole, as a point.
func (q spot) point() api.Point {
	if q.far {
		return far
	}
	return at(int(q.x.Num().Int64()), int(q.y.Num().Int64()))
}

// sum is how chapter 14 adds points, with fractions; a is the curve's.
func sum(a *big.Rat, q, r spot) spot {
	switch {
	case q.far:
		return r
	case r.far:
		return q
	case q.x.Cmp(r.x) == 0 && plus(q.y, r.y).Sign() == 0:
		return spot{far: true}
	}
	up, down := minus(r.y, q.y), minus(r.x, q.x)
	if q.x.Cmp(r.x) == 0 {
		up, down = plus(times(rat(3), times(q.x, q.x)), a), times(rat(2), q.y)
	}
	k := over(up, down)
	x := minus(minus(times(k, k), q.x), r.x)
	return spot{x: x, y: minus(times(k, minus(q.x, x)), q.y)}
}

// orderOf adds q to Far till Far comes, or up to the greatest order that there is; then it answers 0. It answers, too, whether all that came was whole.
func orderOf(a *big.Rat, q spot) (order int, whole bool) {
	at, whole := spot{far: true}, true
	for n := 1; n <= mazur; n++ {
		at = sum(a, at, q)
		whole = whole && at.isWhole()
		if at.far {
			return n, whole
		}
	}
	return 0, whole
}

func (c pair) order(q spot) (order int, whole bool) { return orderOf(rat(c.a), q) }

// add answers q and r, added, and whether that is whole.
func (c pair) add(q, r api.Point) (api.Point, bool) {
	at := sum(rat(c.a), spotOf(q), spotOf(r))
	if !at.isWhole() {
		return api.Point{}, false
	}
	return at.point(), true
}
