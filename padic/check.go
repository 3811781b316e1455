package padic

import (
	"arithmetica/api"
	"arithmetica/bound"
	"arithmetica/prime"
)

const (
	mostExponent = 60
	mostTerms    = 13 // numbers of a polynomial
)

// powerOf answers p to the power of k, if p is a prime up to MaxSmall and the power is a number.
func powerOf(p, k int) (int, api.Fault) {
	if p < 2 || p > api.MaxSmall {
		return 0, api.Fault{Code: api.ErrRange, At: 0}
	}
	if is, _ := prime.Is(p); !is {
		return 0, api.Fault{Code: api.ErrKind, At: 0}
	}
	if k < 1 || k > mostExponent {
		return 0, api.Fault{Code: api.ErrRange, At: 1}
	}
	power := 1
	for range k {
		// It divides ahead of multiplying, so that nothing wraps round.
		if power > api.MaxNum/p {
			return 0, api.Fault{Code: api.ErrMuch, At: 1}
		}
		power *= p
	}
	return power, api.Fault{}
}

// checkPolynomial answers what is wrong with the numbers of a polynomial.
func checkPolynomial(l []int) api.Fault {
	if len(l) > mostTerms {
		return api.Fault{Code: api.ErrMany, At: 2}
	}
	for _, n := range l {
		if !bound.IsNumber(n) {
			return api.Fault{Code: api.ErrRange, At: 2}
		}
	}
	return api.Fault{}
}

// checkStart answers why x may not be lifted, if it may not: only where the slope is not 0 by p there is just one way to lift it.
func checkStart(p int, l []int, x int) api.Fault {
	if x < 0 || x >= p {
		return api.Fault{Code: api.ErrRange, At: 3}
	}
	if valueAt(l, x, p) != 0 {
		return api.Fault{Code: api.ErrFalse, At: 3}
	}
	if slopeAt(l, x, p) == 0 {
		return api.Fault{Code: api.ErrForm, At: 3}
	}
	return api.Fault{}
}
