package quad

import (
	"arithmetica/api"
	"arithmetica/modulo"
	"arithmetica/whole"
)

// compose answers a form of the class that is composed of those of f and g, which have one discriminant d.
//
// With e the greatest number that divides f.A, g.A and half, and u, v, w so that u f.A + v g.A + w half is e, its A is f.A g.A / e^2, and its B is (u f.A g.B + v g.A f.B + w (f.B g.B + d) / 2) / e (Gauss, Arndt). Without g.B times e's equation that is g.B + 2 (g.A / e) (v (f.B - g.B) / 2 - w g.C), and the last bracket may be left by f.A / e, which changes B by multiples of 2 A alone.
//
// So an int holds all of it: parts of f and g are at most MaxSmall in size, u, v and w come of Bezout's least numbers, and no product is much above MaxSmall's third power, which is MaxNum.
func compose(f, g api.Form) api.Form {
	half := (f.B + g.B) / 2
	both, _, times, _ := whole.Bezout(f.A, g.A)
	e, w, more, _ := whole.Bezout(half, both)
	v := times * more
	one, other := f.A/e, g.A/e
	left := modulo.Left(v*((f.B-g.B)/2)-w*g.C, one)
	return api.Form{
		A: one * other,
		B: g.B + 2*other*left,
		C: (e*g.C + left*(g.B+other*left)) / one,
	}
}
