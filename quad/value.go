package quad

import (
	"arithmetica/api"
	"arithmetica/whole"
)

func value(f api.Form, x, y int) int { return f.A*x*x + f.B*x*y + f.C*y*y }

func discriminant(f api.Form) int { return f.B*f.B - 4*f.A*f.C }

// commonDivisor answers the greatest number that divides A, B and C.
func commonDivisor(f api.Form) int {
	g, _ := whole.Gcd(f.A, f.B)
	g, _ = whole.Gcd(g, f.C)
	return g
}
