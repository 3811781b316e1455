package cont

import "cmp"

// approach is a fraction on the way to a / b, with gap = a down - b up, which is how far it lies from a / b, times b down. The gap of a sum is the sum of the gaps, so that it needs no long product.
type approach struct{ up, down, gap int }

func (x approach) plus(times int, y approach) approach {
	return approach{x.up + times*y.up, x.down + times*y.down, x.gap + times*y.gap}
}

// near answers the fraction nearest to a / b whose down is at most most, for b and most above 0.
//
// It goes along the fractions that the first entries of the list come to. If one more entry is too much, a / b lies between the last fraction and the one that takes as much of that entry as most lets it; these are neighbours among all with such a down, so that the nearest is one of the two. Nothing wraps round: no fraction on the way has an up greater in size than a, or a down greater than b.
func near(a, b, most int) approach {
	before, last := approach{0, 1, a}, approach{1, 0, -b}
	for quotient := range quotients(a, b) {
		next := before.plus(quotient, last)
		if next.down > most {
			return nearer(last, before.plus((most-before.down)/last.down, last))
		}
		before, last = last, next
	}
	return last
}

// nearer answers the one with the lesser gap over its down; of two as near the one with the lesser down; of these the lesser one. An int holds the products: as x and y are neighbours on both sides of a / b, the two are b in sum.
func nearer(x, y approach) approach {
	order := cmp.Or(
		cmp.Compare(max(x.gap, -x.gap)*y.down, max(y.gap, -y.gap)*x.down),
		cmp.Compare(x.down, y.down),
		cmp.Compare(x.up, y.up),
	)
	if order < 0 {
		return x
	}
	return y
}
