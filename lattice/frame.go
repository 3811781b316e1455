package lattice

import "arithmetica/long"

// frame tells how the rows of a basis lie to those ahead of them.
//
// Call box i the determinant of the products of the first i rows with each other; box 0 is 1. With b*i and mij of the chapter, the norm of b*i is box i+1 over box i, and mij times box j+1 is a whole number. So there is no need for fractions.
type frame struct {
	rows  [][]int
	parts [][]long.Signed // of row i: mij times box j+1 for each j below i, and then box i+1, as if mii were 1
}

// framed answers the frame of the rows, and whether none of them is a sum of multiples of those ahead.
func framed(rows ...[]int) (frame, bool) {
	var f frame
	for _, row := range rows {
		f.lay(row)
		if f.box(len(f.rows)).Sign() == 0 {
			return f, false
		}
	}
	return f, true
}

// lay lays row behind the others, whose boxes are not 0.
//
// Each part begins as the product of both rows. Then, for each row ahead, what both have along b*i is taken away, and all is taken box i+1 times. As what comes out each time is a determinant of products of rows, the quotient by box i leaves no rest (Bareiss).
func (f *frame) lay(row []int) {
	last := len(f.rows)
	f.rows = append(f.rows, row)
	f.parts = append(f.parts, nil)
	for j, other := range f.rows {
		part := long.SignedOf(product(row, other))
		for i := range j {
			along := f.parts[last][i].Product(f.parts[j][i])
			part, _ = part.Product(f.box(i + 1)).Minus(along).Divide(f.box(i))
		}
		f.parts[last] = append(f.parts[last], part)
	}
}

// cut leaves only the first rows.
func (f *frame) cut(many int) {
	f.rows = f.rows[:many]
	f.parts = f.parts[:many]
}

func (f *frame) box(i int) long.Signed {
	if i == 0 {
		return long.SignedOf(1)
	}
	return f.parts[i-1][i-1]
}

func (f *frame) isReduced() bool {
	for i := range f.rows {
		for j := range i {
			if !f.isNear(i, j) {
				return false
			}
		}
		if !f.isHigh(i) {
			return false
		}
	}
	return true
}

// isNear tells whether mij is from -1/2 to 1/2.
func (f *frame) isNear(i, j int) bool {
	return f.parts[i][j].Size().Times(2).Compare(f.box(j+1).Size()) <= 0
}

// isHigh tells whether the norm of b*i is at least 3/4 less the square of m i i-1, times the norm of b*(i-1). Both sides are taken times 4, box i and box i-1.
func (f *frame) isHigh(i int) bool {
	if i == 0 {
		return true
	}
	norm := f.box(i + 1).Product(f.box(i - 1))
	square := f.parts[i][i-1].Product(f.parts[i][i-1])
	ahead := f.box(i).Product(f.box(i))
	return norm.Plus(square).Size().Times(4).Compare(ahead.Size().Times(3)) >= 0
}
