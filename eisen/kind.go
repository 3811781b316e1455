package eisen

import (
	"arithmetica/api"
	"arithmetica/residue"
	"arithmetica/ring"
)

// numbers answers the ring of Eisenstein's numbers.
func numbers() ring.Ring {
	return ring.Ring{Unit: api.Pair{A: 1, B: 1}, Order: 3, Times: times, Mirror: mirror, IsChief: isChief, Split: split}
}

// times puts -1 - w for w^2.
func times(x, y api.Pair) api.Pair {
	return api.Pair{A: x.A*y.A - x.B*y.B, B: x.A*y.B + x.B*y.A - x.B*y.B}
}

// mirror puts w^2 for w, which is the other root of w's equation.
func mirror(x api.Pair) api.Pair { return api.Pair{A: x.A - x.B, B: -x.B} }

func isChief(x api.Pair) bool { return x.A > x.B && x.B >= 0 }

// split answers a number whose norm is 3 above a square, and divided by the prime p, if there is one: by p, the square leaves what -3 leaves, and 1 + 2 w is a root of -3.
//
// Of 2, such a number says nothing, as 2 divides it itself; and 2 does not split: A^2 - A B + B^2 is even only where A and B are.
func split(p int) (x api.Pair, has bool) {
	roots, _ := residue.Roots(-3, p)
	if p == 2 || len(roots) == 0 {
		return api.Pair{}, false
	}
	return api.Pair{A: roots[0] + 1, B: 2}, true
}
