package lattice

import (
	"slices"

	"arithmetica/long"
)

// reduced answers the frame of a reduced basis of b's lattice (Lenstra, Lenstra and Lovasz).
//
// The rows that are laid are reduced at all times; the others are left, the next one last. A row that is not high enough goes ahead of the one below it. With that, a box becomes less by a quarter at least, and the others stay: as they are whole and above 0, this comes to an end.
func reduced(b [][]int) frame {
	var f frame
	var left [][]int
	for _, row := range slices.Backward(b) {
		left = append(left, slices.Clone(row))
	}
	for len(left) > 0 {
		last := len(f.rows)
		f.lay(left[len(left)-1])
		left = left[:len(left)-1]
		f.bringNear(last)
		if !f.isHigh(last) {
			left = append(left, f.rows[last-1], f.rows[last])
			f.cut(last - 1)
		}
	}
	return f
}

// bringNear takes such multiples of the rows ahead from the last one that mij is from -1/2 to 1/2 for each j.
//
// An int holds all of this. The rows ahead are reduced, and so the norm of b*j is at least 1/8. No b*i becomes longer than the longest row was at first, and so no row that is left or laid has a norm above 16 MaxSmall^2. So mij is below 2^24 at first, has become at most 4 times that when it is looked at, and the entries of the row stay below 2^52.
func (f *frame) bringNear(last int) {
	for j := last - 1; j >= 0; j-- {
		if f.isNear(last, j) {
			continue
		}
		times := nearest(f.parts[last][j], f.box(j+1))
		f.rows[last] = plus(f.rows[last], -times.Int(), f.rows[j])
		for i, part := range f.parts[j] {
			f.parts[last][i] = f.parts[last][i].Minus(times.Product(part))
		}
	}
}

// nearest answers a whole number that is nearest to x / y, for y above 0.
func nearest(x, y long.Signed) long.Signed {
	quotient, _ := x.Plus(x).Plus(y).Divide(y.Plus(y))
	return quotient
}
