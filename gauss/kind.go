package gauss

import (
	"arithmetica/api"
	"arithmetica/residue"
	"arithmetica/ring"
)

// numbers answers the ring of Gauss's numbers.
func numbers() ring.Ring {
	return ring.Ring{Unit: api.Pair{B: 1}, Order: 4, Times: times, Mirror: mirror, IsChief: isChief, Split: split}
}

func times(x, y api.Pair) api.Pair {
	return api.Pair{A: x.A*y.A - x.B*y.B, B: x.A*y.B + x.B*y.A}
}

func mirror(x api.Pair) api.Pair { return api.Pair{A: x.A, B: -x.B} }

func isChief(x api.Pair) bool { return x.A > 0 && x.B >= 0 }

// split answers a number whose norm is 1 above a square, and divided by the prime p, if there is one: by p, the square leaves what -1 leaves.
func split(p int) (x api.Pair, has bool) {
	roots, _ := residue.Roots(-1, p)
	if len(roots) == 0 {
		return api.Pair{}, false
	}
	return api.Pair{A: roots[0], B: 1}, true
}
