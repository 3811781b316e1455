package cont

import (
	"iter"

	"arithmetica/api"
	"arithmetica/whole"
)

// surd is (p + the root of d) / q, where q is above 0 and divides d - p^2, and floor is the root's whole part.
type surd struct{ d, floor, p, q int }

// rootOf answers the root of d, if d is from 2 to MaxSmall and no square.
func rootOf(d int) (surd, api.Fault) {
	if d < 2 || d > api.MaxSmall {
		return surd{}, api.Fault{Code: api.ErrRange, At: 0}
	}
	floor, _ := whole.Root(d, 2)
	if floor*floor == d {
		return surd{}, api.Fault{Code: api.ErrKind, At: 0}
	}
	return surd{d: d, floor: floor, p: 0, q: 1}, api.Fault{}
}

// quotient answers the whole part of s.
func (s surd) quotient() int {
	return (s.p + s.floor) / s.q
}

// next answers 1 over what s is above its whole part.
func (s surd) next() surd {
	p := s.quotient()*s.q - s.p
	return surd{d: s.d, floor: s.floor, p: p, q: (s.d - p*p) / s.q}
}

// part yields what stands behind the first entry of the list that comes to s, up to the end of the shortest part that comes again and again, where s is the root of d, or (1 + root) / 2.
//
// That end is where q is that of s again: what stands there is then s and a whole number together, and with only one such number does the list come again from its first entry on (Galois).
func part(s surd) iter.Seq[int] {
	return func(yield func(int) bool) {
		for t := s.next(); ; t = t.next() {
			if !yield(t.quotient()) || t.q == s.q {
				return
			}
		}
	}
}

// cycle answers what part yields, as a list of at most MaxList entries.
func cycle(s surd) ([]int, api.Fault) {
	var l []int
	for quotient := range part(s) {
		if len(l) == api.MaxList {
			return nil, api.Fault{Code: api.ErrMuch, At: 0}
		}
		l = append(l, quotient)
	}
	return l, api.Fault{}
}
