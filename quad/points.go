package quad

import (
	"cmp"
	"slices"

	"arithmetica/api"
	"arithmetica/whole"
)

// points looks for them in the reduced form, where they lie nearest to 0, 0, and turns them back.
//
// Of any form, 4 A n is (2 A x + B y)^2 and y^2 times the size of the discriminant.
func points(f api.Form, n int) [][2]int {
	t, size := reduce(f), -discriminant(f)
	most := squareRoot(4 * t.form.A * n / size)
	var list [][2]int
	for y := -most; y <= most; y++ {
		square := 4*t.form.A*n - size*y*y
		for _, x := range across(t.form, y, square) {
			list = append(list, t.at(x, y))
		}
	}
	slices.SortFunc(list, compare)
	return list
}

// across answers all x for which (2 A x + B y)^2 is square.
func across(f api.Form, y, square int) []int {
	root := squareRoot(square)
	if root*root != square {
		return nil
	}
	var list []int
	for _, root := range slices.Compact([]int{-root, root}) {
		if up := root - f.B*y; up%(2*f.A) == 0 {
			list = append(list, up/(2*f.A))
		}
	}
	return list
}

func squareRoot(n int) int {
	root, _ := whole.Root(n, 2)
	return root
}

func compare(one, other [2]int) int {
	return cmp.Or(cmp.Compare(one[0], other[0]), cmp.Compare(one[1], other[1]))
}
