// Package whole reckons with whole numbers and what they leave: layer 1, doc/01-whole.md.
package whole

import (
	"arithmetica/api"
	"arithmetica/bound"
	"arithmetica/modulo"
)

const (
	mostExponent = 60 // the greatest k that Root takes
	numberBits   = 60 // MaxNum is below 2 to the power of this
)

// Gcd answers the greatest number that divides both a and b; 0 of 0 and 0.
func Gcd(a, b int) (int, api.Fault) {
	if f := bound.Numbers(a, b); f.Code != api.OK {
		return 0, f
	}
	return gcd(a, b), api.Fault{}
}

// Bezout answers g, which is Gcd, and u and v with u a + v b = g.
func Bezout(a, b int) (g, u, v int, f api.Fault) {
	if f := bound.Numbers(a, b); f.Code != api.OK {
		return 0, 0, 0, f
	}
	g, u, v = bezout(a, b)
	return g, u, v, api.Fault{}
}

// Power answers a to the power of n, left by m.
func Power(a, n, m int) (int, api.Fault) {
	if f := bound.Numbers(a, n, m); f.Code != api.OK {
		return 0, f
	}
	if n < 0 {
		return 0, api.Fault{Code: api.ErrRange, At: 1}
	}
	if m < 1 {
		return 0, api.Fault{Code: api.ErrRange, At: 2}
	}
	return modulo.Power(a, n, m), api.Fault{}
}

// Inverse answers the number from 0 to m - 1 whose product with a leaves what 1 leaves, left by m.
func Inverse(a, m int) (int, api.Fault) {
	if f := bound.Numbers(a, m); f.Code != api.OK {
		return 0, f
	}
	if m < 1 {
		return 0, api.Fault{Code: api.ErrRange, At: 1}
	}
	// With g = 1, u is already from 0 to m - 1, as Bezout keeps it below m / g.
	g, u, _ := bezout(a, m)
	if g != 1 {
		return 0, api.Fault{Code: api.ErrNone}
	}
	return u, api.Fault{}
}

// Join answers the number that leaves by each of mods what the one of rests at its place leaves, and the least number that all mods divide.
func Join(rests, mods []int) (rest, mod int, f api.Fault) {
	if len(rests) > api.MaxList || len(mods) > api.MaxList {
		return 0, 0, api.Fault{Code: api.ErrMany}
	}
	if len(rests) != len(mods) {
		return 0, 0, api.Fault{Code: api.ErrSize}
	}
	rest, mod = 0, 1
	for i := range len(rests) {
		var code int
		rest, mod, code = joinOne(rest, mod, rests[i], mods[i])
		if code != api.OK {
			return 0, 0, api.Fault{Code: code, At: i}
		}
	}
	return rest, mod, api.Fault{}
}

// Root answers the greatest whole number whose k-th power is not above n.
func Root(n, k int) (int, api.Fault) {
	if !bound.IsNumber(n) || n < 0 {
		return 0, api.Fault{Code: api.ErrRange, At: 0}
	}
	if k < 1 || k > mostExponent {
		return 0, api.Fault{Code: api.ErrRange, At: 1}
	}
	return root(n, k), api.Fault{}
}

func size(n int) int {
	if n < 0 {
		return -n
	}
	return n
}

func sign(n int) int {
	switch {
	case n > 0:
		return 1
	case n < 0:
		return -1
	}
	return 0
}

func gcd(a, b int) int {
	for b != 0 {
		a, b = b, a%b
	}
	return size(a)
}

func bezout(a, b int) (g, u, v int) {
	if b == 0 {
		return size(a), sign(a), 0
	}
	g, u, v = euclid(a, b)
	// Euclid's u lies strictly between minus and plus the size of b / g, so one step is enough.
	if u < 0 {
		u += size(b) / g
		v -= sign(b) * (a / g)
	}
	return g, u, v
}

// euclid answers the g above 0 and some u, v with u a + v b = g, where b is not 0. Neither u nor v ever grows beyond the size of b / g or a / g (or 1), so that nothing wraps round.
func euclid(a, b int) (g, u, v int) {
	u, v = 1, 0
	nextU, nextV := 0, 1
	for b != 0 {
		times := a / b
		a, b = b, a-times*b
		u, nextU = nextU, u-times*nextU
		v, nextV = nextV, v-times*nextV
	}
	if a < 0 {
		return -a, -u, -v
	}
	return a, u, v
}

// joinOne joins what is found so far, rest of mod, with one place more, and answers a fault's code.
func joinOne(rest, mod, nextRest, nextMod int) (int, int, int) {
	if !bound.IsNumber(nextRest) || nextMod < 1 || nextMod > api.MaxNum {
		return 0, 0, api.ErrRange
	}
	g, u, _ := bezout(mod, nextMod)
	gap := nextRest - rest
	if gap%g != 0 {
		return 0, 0, api.ErrNone
	}
	more := nextMod / g
	if mod > api.MaxNum/more {
		return 0, 0, api.ErrMuch
	}
	// u is the inverse of mod / g by more: so many steps of mod fill the gap, and the sum stays below mod times more.
	steps := modulo.Product(modulo.Left(gap/g, more), u, more)
	return rest + steps*mod, mod * more, api.OK
}

// root tries the bits of the answer from the highest on.
func root(n, k int) int {
	answer := 0
	for i := range numberBits {
		try := answer | 1<<(numberBits-1-i)
		if powerIsWithin(try, k, n) {
			answer = try
		}
	}
	return answer
}

// powerIsWithin tells whether x to the power of k is not above n, for x above 0. It divides n instead of multiplying beyond it.
func powerIsWithin(x, k, n int) bool {
	reached := 1
	for range k {
		if reached > n/x {
			return false
		}
		reached *= x
	}
	return true
}
