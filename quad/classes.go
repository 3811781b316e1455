package quad

import "arithmetica/api"

// classes goes through all A and B that a reduced form may have: B is in size not above A, nor A above C, so that 4 A C - B^2 is at least 3 A^2.
func classes(d int) []api.Form {
	var list []api.Form
	for a := 1; 3*a*a <= -d; a++ {
		for b := -a; b <= a; b++ {
			f := api.Form{A: a, B: b, C: (b*b - d) / (4 * a)}
			// Where 4 A does not divide B^2 - d, no C fits, and this one misses d.
			if discriminant(f) == d && isReduced(f) && commonDivisor(f) == 1 {
				list = append(list, f)
			}
		}
	}
	return list
}
