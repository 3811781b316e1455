package quad_test

import (
	"math/big"

	"arithmetica/api"
)

// long is a form of long numbers.
type long struct{ a, b, c *big.Int }

func longOf(f api.Form) long { return long{large(f.A), large(f.B), large(f.C)} }

func sum(list ...*big.Int) *big.Int {
	answer := new(big.Int)
	for _, n := range list {
		answer.Add(answer, n)
	}
	return answer
}

func product(list ...*big.Int) *big.Int {
	answer := large(1)
	for _, n := range list {
		answer.Mul(answer, n)
	}
	return answer
}

func (f long) value(x, y *big.Int) *big.Int {
	return sum(product(f.a, x, x), product(f.b, x, y), product(f.c, y, y))
}

func (f long) discriminant() *big.Int {
	return sum(product(f.b, f.b), product(large(-4), f.a, f.c))
}

func (f long) is(g long) bool {
	return f.a.Cmp(g.a) == 0 && f.b.Cmp(g.b) == 0 && f.c.Cmp(g.c) == 0
}

func (f long) form() api.Form {
	return form(int(f.a.Int64()), int(f.b.Int64()), int(f.c.Int64()))
}

// turn answers the form whose value at x, y is f's at p x + q y, r x + s y.
func (f long) turn(p, q, r, s *big.Int) long {
	a, c := f.value(p, r), f.value(q, s)
	both := f.value(sum(p, q), sum(r, s))
	return long{a, both.Sub(both, sum(a, c)), c}
}

// turnBy is turn of ints.
func (f long) turnBy(m [4]int) long {
	return f.turn(large(m[0]), large(m[1]), large(m[2]), large(m[3]))
}

// reduced goes down as slowly and plainly as the definition: one step at a time that makes A or B less.
func (f long) reduced() api.Form {
	for {
		twice := product(large(2), f.a)
		k := sum(f.a, new(big.Int).Neg(f.b))
		k.Div(k, twice) // B + 2 A k is above -A and not above A
		f = f.turn(large(1), k, large(0), large(1))
		order := f.a.Cmp(f.c)
		if order < 0 || order == 0 && f.b.Sign() >= 0 {
			return f.form()
		}
		f = f.turn(large(0), large(-1), large(1), large(0))
	}
}
