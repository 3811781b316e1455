package quad

import (
	"slices"

	"arithmetica/api"
	"arithmetica/modulo"
	"arithmetica/seek"
	"arithmetica/whole"
)

// genus answers what values of f leave by size, the size of its discriminant, as far as it is a unit, rising. A unit is a number that has no divisor above 1 with size.
//
// A value of f times one of the form of 1 is a value of f, and two values of f make one of the form of 1 (Gauss). So the units that f leaves are all that the form of 1 leaves, times any one of f's: if u and v are two of f's, u is v times u v, but for the square of v, and squares of units take what the form of 1 leaves to such again.
func genus(f api.Form, size int) []int {
	unit := unitValue(f, size) % size
	var list []int
	for n := range unitsOfOne(size) {
		list = append(list, modulo.Product(unit, n, size))
	}
	slices.Sort(list)
	return list
}

// unitValue answers a value of f that is a unit by size.
//
// There is one where y is 1, as what x leaves by each prime in size may be chosen on its own. An odd prime p divides A x^2 + B x + C at no more than two of p x in a row, since it does not divide A, B and C. If 2 divides size, B is even, and A or C odd: then 2 does not divide at each of two x in a row.
func unitValue(f api.Form, size int) int {
	x := seek.Least(func(x int) bool { return isUnit(value(f, x, 1), size) })
	return value(f, x, 1)
}

// unitsOfOne answers the units by size that are left by values of the form of 1 with a discriminant of that size.
//
// It is enough to go through y of 0 and 1: if size is even, the form is x^2 + (size / 4) y^2, and y^2 leaves 0 or 1 by 4; if it is odd, all values are squares by size, as four times a value is (2 x + y)^2 and a multiple of size.
func unitsOfOne(size int) map[int]struct{} {
	one := formOfOne(size)
	units := map[int]struct{}{}
	for y := range 2 {
		for x := range size {
			if n := value(one, x, y) % size; isUnit(n, size) {
				units[n] = struct{}{}
			}
		}
	}
	return units
}

// formOfOne answers the reduced form that has the value 1, and a discriminant of that size.
func formOfOne(size int) api.Form {
	b := size % 2
	return api.Form{A: 1, B: b, C: (size + b) / 4}
}

func isUnit(n, size int) bool {
	g, _ := whole.Gcd(n, size)
	return g == 1
}
