package grid

// solve answers an x with m x = b, rows whose whole multiples are, in sum, all z with m z = 0, each in one way, and whether there is such an x.
//
// With the form h = u m', where m' is m turned, as many times the rows of h are taken away from b as their pivots ask for; the same times the rows of u are x. If b is no sum of them, something is left, as no later row has anything below a pivot. The rows of u that lead to noughts are the kernel: u is unimodular, so there are no other z.
func solve(m matrix, b vector) (x vector, kernel matrix, ok bool) {
	h, u := hermite(turned(m))
	rank := rankOf(h)
	x = make(vector, len(u))
	for i, row := range h[:rank] {
		column := pivot(row)
		times, _ := b[column].Divide(row[column])
		b = less(b, times, row)
		x = less(x, times.Negative(), u[i])
	}
	if pivot(b) >= 0 {
		return nil, nil, false
	}
	return x, u[rank:], true
}
