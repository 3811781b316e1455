package quad

import (
	"arithmetica/api"
	"arithmetica/modulo"
)

// turned is a form that is like another, and m = p, q, r, s: its value at x, y is the other's at p x + q y, r x + s y, and p s - q r is 1.
type turned struct {
	form api.Form
	m    [4]int
}

// isReduced tells whether a form whose A is above 0 is the chosen one of those that are like it.
func isReduced(f api.Form) bool {
	size := max(f.B, -f.B)
	if size > f.A || f.A > f.C {
		return false
	}
	return f.B >= 0 || size < f.A && f.A < f.C
}

// reduce answers the reduced form that is like f.
//
// This ends: what is slid is not reduced only if C is below A, so that a swap makes A less, or if C is A and B is below 0, so that a swap is the last one.
func reduce(f api.Form) turned {
	t := turned{form: f, m: [4]int{1, 0, 0, 1}}.slide()
	for !isReduced(t.form) {
		t = t.swap().slide()
	}
	return t
}

// slide puts x + k y for x, with the k that brings B above -A, but not above A.
func (t turned) slide() turned {
	f, m := t.form, t.m
	b := f.A - modulo.Left(f.A-f.B, 2*f.A)
	k := (b - f.B) / (2 * f.A)
	// The new C is A k^2 + B k + C, and b is B + 2 A k.
	f.C += k * (f.B + b) / 2
	f.B = b
	return turned{form: f, m: [4]int{m[0], m[1] + k*m[0], m[2], m[3] + k*m[2]}}
}

// swap puts -y for x, and x for y: with y for x alone, p s - q r would be -1.
func (t turned) swap() turned {
	f, m := t.form, t.m
	return turned{form: api.Form{A: f.C, B: -f.B, C: f.A}, m: [4]int{m[1], -m[0], m[3], -m[2]}}
}

// at answers where the other form has the value that this one has at x, y.
func (t turned) at(x, y int) [2]int {
	return [2]int{t.m[0]*x + t.m[1]*y, t.m[2]*x + t.m[3]*y}
}
