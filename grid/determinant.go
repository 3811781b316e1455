package grid

import (
	"slices"

	"arithmetica/long"
)

// determinant answers that of a square matrix.
//
// It clears column by column below the diagonal, and divides each time by the diagonal's number ahead, which leaves no rest: what is reckoned are determinants of parts of m, and so no longer than they must be (Bareiss).
func determinant(m matrix) long.Signed {
	rows := slices.Clone(m)
	ahead := long.SignedOf(1)
	for k := range rows {
		at := firstBelow(rows, k)
		if at == len(rows) {
			return long.Signed{}
		}
		if at > k {
			// The sign turns with each swap, and back with the row's.
			rows[k], rows[at] = rows[at], negative(rows[k])
		}
		for i := k + 1; i < len(rows); i++ {
			rows[i] = cleared(rows[i], rows[k], k, ahead)
		}
		ahead = rows[k][k]
	}
	return ahead
}

// firstBelow answers the first row from k on whose number in column k is not 0; if there is none, how many rows there are.
func firstBelow(rows matrix, k int) int {
	at := k
	for at < len(rows) && rows[at][k].Sign() == 0 {
		at++
	}
	return at
}

// cleared answers row, times the number of pivot in column k, less as many times pivot as leaves 0 there, all divided by ahead.
func cleared(row, pivot vector, k int, ahead long.Signed) vector {
	answer := make(vector, len(row))
	for j := range row {
		answer[j], _ = row[j].Product(pivot[k]).Minus(row[k].Product(pivot[j])).Divide(ahead)
	}
	return answer
}
