package cont

import "arithmetica/long"

// pair is x + y times a root.
type pair struct{ x, y long.Number }

func (v pair) plus(times int, w pair) pair {
	return pair{v.x.Plus(w.x.Times(times)), v.y.Plus(w.y.Times(times))}
}

// climb answers scale (P - Q s'), where P / Q is what the first entry of the list of s and all of l but its last come to, and s' is s with the opposite of the root. At the end of a part that comes again and again the norm of P - Q s' is 1 or -1.
//
// The pairs grow from entry to entry as P and Q do. They begin with 1 / 0 and the first entry, as ahead of these one would be below 0.
func climb(s surd, scale int, l []int) pair {
	before := pair{long.Of(scale), long.Of(0)}
	last := pair{long.Of(scale * s.next().p / s.q), long.Of(scale / s.q)}
	for _, quotient := range l[:len(l)-1] {
		before, last = last, before.plus(quotient, last)
	}
	return last
}

// normAfter answers the norm at the end of l, a part that comes again and again: its sign turns with each entry.
func normAfter(l []int) int {
	if len(l)%2 == 0 {
		return 1
	}
	return -1
}
