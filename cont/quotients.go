package cont

import (
	"iter"

	"arithmetica/modulo"
)

// quotients yields Euclid's quotients of a and b, for b above 0, one after the other: the list that comes to a / b. As each remainder is below the number that left it, the last quotient, if it is not the first, is above 1.
func quotients(a, b int) iter.Seq[int] {
	return func(yield func(int) bool) {
		up, down := a, b
		for down != 0 {
			rest := modulo.Left(up, down)
			if !yield((up - rest) / down) {
				return
			}
			up, down = down, rest
		}
	}
}
