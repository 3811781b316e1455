package ring

import (
	"arithmetica/api"
	"arithmetica/modulo"
)

func isZero(x api.Pair) bool { return x == api.Pair{} }

func (r Ring) norm(x api.Pair) int { return r.Times(x, r.Mirror(x)).A }

// div divides by y, which is not 0. The quotient is made a fraction of whole numbers: y's mirror makes the norm of what is below.
func (r Ring) div(x, y api.Pair) (q, left api.Pair) {
	up, down := r.Times(x, r.Mirror(y)), r.norm(y)
	q = api.Pair{A: nearest(up.A, down), B: nearest(up.B, down)}
	back := r.Times(q, y)
	return q, api.Pair{A: x.A - back.A, B: x.B - back.B}
}

// nearest answers up / down and 1/2, rounded down, for down above 0.
func nearest(up, down int) int {
	left := modulo.Left(up, down)
	quotient := (up - left) / down
	if left >= down-left {
		return quotient + 1
	}
	return quotient
}

// gcd is Euclid's: what divides two numbers divides what one leaves by the other, and norms cannot fall for ever.
func (r Ring) gcd(x, y api.Pair) api.Pair {
	for !isZero(y) {
		_, left := r.div(x, y)
		x, y = y, left
	}
	return r.chief(x)
}

// chief turns x until it is the chief of those that differ from it by a unit. No turn makes one of 0, which is its own.
func (r Ring) chief(x api.Pair) api.Pair {
	for !isZero(x) && !r.IsChief(x) {
		x = r.Times(x, r.Unit)
	}
	return x
}

// turns answers the least power of Unit that is the unit u.
func (r Ring) turns(u api.Pair) int {
	many := 0
	for power := (api.Pair{A: 1}); power != u; power = r.Times(power, r.Unit) {
		many++
	}
	return many
}
