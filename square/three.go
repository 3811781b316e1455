package square

import (
	"slices"

	"arithmetica/whole"
)

// three answers three numbers, falling, none below 0, whose squares are n in sum, and whether there are any.
//
// If 4 divides the sum of three squares, all three are even: so what is found without fours is all there is. It looks for the greatest number first, as what it leaves then is small, and soon taken apart.
func three(n int) ([]int, bool) {
	core, scale := withoutFours(n)
	if core%8 == 7 {
		return nil, false
	}
	root, _ := whole.Root(core, 2)
	for less := range root + 1 {
		c := root - less
		if a, b, ok := onePair(core - c*c); ok {
			return falling(scale*a, scale*b, scale*c), true
		}
	}
	// Nothing comes here: there are three for all other cores (Legendre).
	return nil, false
}

// four answers four numbers, falling, none below 0, whose squares are n in sum.
func four(n int) []int {
	if list, ok := three(n); ok {
		return append(list, 0)
	}
	// The core leaves 7, left by 8. Less 1 it leaves 6: there are three, none of which is 0, as no two squares leave 6 in sum.
	_, scale := withoutFours(n)
	list, _ := three(n - scale*scale)
	return append(list, scale)
}

// withoutFours answers core and scale, for which n is core times the square of scale, and 4 does not divide core, unless n is 0.
func withoutFours(n int) (core, scale int) {
	core, scale = n, 1
	for core > 0 && core%4 == 0 {
		core /= 4
		scale *= 2
	}
	return core, scale
}

func falling(a, b, c int) []int {
	list := []int{a, b, c}
	slices.Sort(list)
	slices.Reverse(list)
	return list
}
