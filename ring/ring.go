// Package ring reckons with complex whole numbers of whatever kind its caller tells it: what the layers of Gauss's and of Eisenstein's numbers have in common, and the faults that are the same in both.
package ring

import (
	"arithmetica/api"
	"arithmetica/bound"
)

// Ring is all pairs, as complex whole numbers of one kind. Only its fields tell of which.
//
// Each part of an exact quotient is rounded to a nearest whole number, so that the kind must be one in which what is left by a number has a norm below that number's.
type Ring struct {
	Unit    api.Pair                           // its powers are the units
	Order   int                                // the least power above 0 of i, or w, that is 1
	Times   func(x, y api.Pair) api.Pair       // the product, whatever its parts are
	Mirror  func(x api.Pair) api.Pair          // the number whose product with x is x's norm
	IsChief func(x api.Pair) bool              // is it a chief, and not 0?
	Split   func(p int) (x api.Pair, has bool) // a number that the prime p does not divide, though it divides its norm, and whether there is one
}

// Norm answers the norm of x.
func (r Ring) Norm(x api.Pair) (int, api.Fault) {
	if f := bound.Pairs(x); f.Code != api.OK {
		return 0, f
	}
	return r.norm(x), api.Fault{}
}

// Mul answers the product of x and y.
func (r Ring) Mul(x, y api.Pair) (api.Pair, api.Fault) {
	if f := bound.Pairs(x, y); f.Code != api.OK {
		return api.Pair{}, f
	}
	product := r.Times(x, y)
	if !bound.IsPair(product) {
		return api.Pair{}, api.Fault{Code: api.ErrMuch, At: 0}
	}
	return product, api.Fault{}
}

// Div answers the whole number q that is nearest to the quotient of x and y in both parts, and what is left.
func (r Ring) Div(x, y api.Pair) (q, left api.Pair, f api.Fault) {
	if f := bound.Pairs(x, y); f.Code != api.OK {
		return api.Pair{}, api.Pair{}, f
	}
	if isZero(y) {
		return api.Pair{}, api.Pair{}, api.Fault{Code: api.ErrZero, At: 1}
	}
	q, left = r.div(x, y)
	return q, left, api.Fault{}
}

// Gcd answers the chief that divides x and y, and that all that divide both divide.
func (r Ring) Gcd(x, y api.Pair) (api.Pair, api.Fault) {
	if f := bound.Pairs(x, y); f.Code != api.OK {
		return api.Pair{}, f
	}
	return r.gcd(x, y), api.Fault{}
}

// Factor answers the primes in x that are chiefs, by their norms, each with how often it is there, and the power of Unit that is left without them.
func (r Ring) Factor(x api.Pair) (turns int, l []api.PairPower, f api.Fault) {
	if f := bound.Pairs(x); f.Code != api.OK {
		return 0, nil, f
	}
	if isZero(x) {
		return 0, nil, api.Fault{Code: api.ErrZero, At: 0}
	}
	unit, l := r.takeApart(x)
	return r.turns(unit), l, api.Fault{}
}

// Symbol answers which power of i, or w, is left by the prime p of x to the power of (N - 1) / Order, where N is the norm of p.
func (r Ring) Symbol(x, p api.Pair) (int, api.Fault) {
	if f := bound.Pairs(x, p); f.Code != api.OK {
		return 0, f
	}
	// Else two of the powers of i, or w, would leave the same by p, or that of x would leave none of them.
	if !r.isPrime(p) || r.norm(p)%r.Order != 1 {
		return 0, api.Fault{Code: api.ErrKind, At: 1}
	}
	by := r.leftBy(p)
	if isZero(by.left(x)) {
		return 0, api.Fault{Code: api.ErrZero, At: 0}
	}
	power := by.power(x, (r.norm(p)-1)/r.Order)
	return by.exponent(api.Pair{B: 1}, power), api.Fault{}
}
