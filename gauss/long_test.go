package gauss_test

import (
	"math/big"

	"arithmetica/api"
)

const most = api.MaxPart

var (
	none = api.Fault{}
	zero = api.Pair{}
)

func faultOf(code, at int) api.Fault { return api.Fault{Code: code, At: at} }

func pair(a, b int) api.Pair { return api.Pair{A: a, B: b} }

func isPart(n int) bool { return -most <= n && n <= most }

func isPair(x api.Pair) bool { return isPart(x.A) && isPart(x.B) }

func isChief(x api.Pair) bool { return x.A > 0 && x.B >= 0 }

// turned answers x times i to the power of turns.
func turned(x api.Pair, turns int) api.Pair {
	for range turns {
		x = pair(-x.B, x.A)
	}
	return x
}

// long is A + B i with parts that may be as long as they like.
type long struct{ a, b *big.Int }

func large(n int) *big.Int { return big.NewInt(int64(n)) }

func longOf(x api.Pair) long { return long{large(x.A), large(x.B)} }

func (x long) is(y long) bool { return x.a.Cmp(y.a) == 0 && x.b.Cmp(y.b) == 0 }

// pair answers x as a pair, if an int holds its parts.
func (x long) pair() (api.Pair, bool) {
	return pair(int(x.a.Int64()), int(x.b.Int64())), x.a.IsInt64() && x.b.IsInt64()
}

func (x long) plus(y long) long {
	return long{new(big.Int).Add(x.a, y.a), new(big.Int).Add(x.b, y.b)}
}

func (x long) minus(y long) long {
	return long{new(big.Int).Sub(x.a, y.a), new(big.Int).Sub(x.b, y.b)}
}

func (x long) times(y long) long {
	ac, bd := new(big.Int).Mul(x.a, y.a), new(big.Int).Mul(x.b, y.b)
	ad, bc := new(big.Int).Mul(x.a, y.b), new(big.Int).Mul(x.b, y.a)
	return long{ac.Sub(ac, bd), ad.Add(ad, bc)}
}

func (x long) norm() *big.Int {
	aa, bb := new(big.Int).Mul(x.a, x.a), new(big.Int).Mul(x.b, x.b)
	return aa.Add(aa, bb)
}

// over answers the parts of x / y, for y but 0, as fractions.
func (x long) over(y long) (a, b *big.Rat) {
	up := x.times(long{y.a, new(big.Int).Neg(y.b)})
	return new(big.Rat).SetFrac(up.a, y.norm()), new(big.Rat).SetFrac(up.b, y.norm())
}

// rounded answers x / y with both parts rounded, as Div's are.
func (x long) rounded(y long) long {
	a, b := x.over(y)
	return long{halfUp(a), halfUp(b)}
}

// halfUp answers n and 1/2, rounded down.
func halfUp(n *big.Rat) *big.Int {
	n = new(big.Rat).Add(n, big.NewRat(1, 2))
	return new(big.Int).Div(n.Num(), n.Denom()) // Denom is above 0, by which Div rounds down
}

func divides(y, x api.Pair) bool { return longOf(x).isTimes(longOf(y)) }

// isTimes tells whether y divides x.
func (x long) isTimes(y long) bool {
	if y.norm().Sign() == 0 {
		return x.norm().Sign() == 0
	}
	a, b := x.over(y)
	return a.IsInt() && b.IsInt()
}

// power answers what x to the power of n leaves by p.
func (x long) power(n *big.Int, p long) long {
	answer := longOf(pair(1, 0))
	for i := n.BitLen() - 1; i >= 0; i-- {
		answer = answer.times(answer)
		if n.Bit(i) == 1 {
			answer = answer.times(x)
		}
		answer = answer.minus(answer.rounded(p).times(p))
	}
	return answer
}
