package lattice

import (
	"slices"

	"arithmetica/long"
	"arithmetica/whole"
)

// shortest answers a vector of the least norm of all that are not 0, in the lattice of a reduced basis: it tries all multiples of each row that can lead to one.
func shortest(f frame) []int {
	best := slices.MinFunc(f.rows, func(x, y []int) int { return product(x, x) - product(y, y) })
	var bounds []int
	for i := range f.rows {
		bounds = append(bounds, f.bound(i, product(best, best)))
	}
	var try func(i int, sum []int)
	try = func(i int, sum []int) {
		if i == len(f.rows) {
			if norm := product(sum, sum); norm > 0 && norm < product(best, best) {
				best = sum
			}
			return
		}
		for times := -bounds[i]; times <= bounds[i]; times++ {
			try(i+1, plus(sum, times, f.rows[i]))
		}
	}
	try(0, make([]int, len(best)))
	return best
}

// bound answers how many times row i is taken at most in a vector whose norm is up to the given one.
//
// A vector is not shorter than its part that stands upright on all rows but i, and that is so many times the one of row i, whose norm is box of all rows over box of the others. As the basis is reduced, this is a small number.
func (f *frame) bound(i, norm int) int {
	others, _ := framed(slices.Delete(slices.Clone(f.rows), i, i+1)...)
	square, _ := long.SignedOf(norm).Product(others.box(len(f.rows) - 1)).Divide(f.box(len(f.rows)))
	root, _ := whole.Root(square.Int(), 2)
	return root
}
