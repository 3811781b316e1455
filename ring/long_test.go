package ring_test

import (
	"math/big"

	"arithmetica/api"
)

// long is A + B s with parts that may be as long as they like.
type long struct{ a, b *big.Int }

func large(n int) *big.Int { return big.NewInt(int64(n)) }

func product(x, y *big.Int) *big.Int { return new(big.Int).Mul(x, y) }

func longOf(x api.Pair) long { return long{large(x.A), large(x.B)} }

func (x long) is(y long) bool { return x.a.Cmp(y.a) == 0 && x.b.Cmp(y.b) == 0 }

// pair answers x as a pair, if an int holds its parts.
func (x long) pair() (api.Pair, bool) {
	return pair(int(x.a.Int64()), int(x.b.Int64())), x.a.IsInt64() && x.b.IsInt64()
}

func (x long) plus(y long) long {
	return long{new(big.Int).Add(x.a, y.a), new(big.Int).Add(x.b, y.b)}
}

func (x long) minus(y long) long {
	return long{new(big.Int).Sub(x.a, y.a), new(big.Int).Sub(x.b, y.b)}
}

func (k kind) times(x, y long) long {
	square := product(x.b, y.b)
	a := product(x.a, y.a)
	b := product(x.a, y.b)
	b.Add(b, product(x.b, y.a))
	return long{a.Sub(a, square), b.Sub(b, product(large(k.middle), square))}
}

func (k kind) longNorm(x long) *big.Int {
	norm := product(x.a, x.a)
	norm.Sub(norm, product(large(k.middle), product(x.a, x.b)))
	return norm.Add(norm, product(x.b, x.b))
}

// mirrored answers the number whose product with x is the norm of x.
func (k kind) mirrored(x long) long {
	a := product(large(k.middle), x.b)
	return long{a.Sub(x.a, a), new(big.Int).Neg(x.b)}
}

// over answers the parts of x / y, for y but 0, as fractions.
func (k kind) over(x, y long) (a, b *big.Rat) {
	up, down := k.times(x, k.mirrored(y)), k.longNorm(y)
	return new(big.Rat).SetFrac(up.a, down), new(big.Rat).SetFrac(up.b, down)
}

// rounded answers x / y with both parts rounded, as Div's are.
func (k kind) rounded(x, y long) long {
	a, b := k.over(x, y)
	return long{halfUp(a), halfUp(b)}
}

// halfUp answers n and 1/2, rounded down.
func halfUp(n *big.Rat) *big.Int {
	n = new(big.Rat).Add(n, big.NewRat(1, 2))
	return new(big.Int).Div(n.Num(), n.Denom()) // Denom is above 0, by which Div rounds down
}

// left answers what x leaves by y.
func (k kind) left(x, y long) long { return x.minus(k.times(k.rounded(x, y), y)) }

func (k kind) divides(y, x api.Pair) bool { return k.longDivides(longOf(y), longOf(x)) }

func (k kind) longDivides(y, x long) bool {
	if y.is(longOf(zero)) {
		return x.is(longOf(zero))
	}
	a, b := k.over(x, y)
	return a.IsInt() && b.IsInt()
}

// power answers what x to the power of n leaves by p.
func (k kind) power(x long, n *big.Int, p long) long {
	answer := longOf(one)
	for i := n.BitLen() - 1; i >= 0; i-- {
		answer = k.times(answer, answer)
		if n.Bit(i) == 1 {
			answer = k.times(answer, x)
		}
		answer = k.left(answer, p)
	}
	return answer
}
