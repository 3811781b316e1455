package grid

import (
	"slices"

	"arithmetica/long"
)

// hermite answers Hermite's form h of m, and a unimodular u with h = u m.
//
// It brings m with the identity beside it into that form. The rows of both together are free of each other, so that only one u leads to it, which is short: Cramer's rule tells it by determinants of parts of m.
func hermite(m matrix) (h, u matrix) {
	return split(formOf(beside(m, identity(len(m)))), len(m[0]))
}

// formOf answers Hermite's form of rows that are free of each other: none is a sum of multiples, by fractions, of the others.
//
// It takes one row after the other, and brings those that it has into their form each time: so what is reckoned in between stays short, too (Kannan and Bachem).
func formOf(rows matrix) matrix {
	var form matrix
	for _, row := range rows {
		form = reduced(joined(form, row))
	}
	return form
}

// joined answers rows with the same sums of whole multiples as form and row have together, whose pivots stand farther and farther right.
func joined(form matrix, row vector) matrix {
	answer := slices.Clone(form)
	at := 0
	for column := range row {
		if at < len(answer) && answer[at][column].Sign() != 0 {
			answer[at], row = euclid(answer[at], row, column)
			at++
		} else if row[column].Sign() != 0 {
			return slices.Insert(answer, at, upright(row, column))
		}
	}
	// Nothing comes here: a row that is free of the others does not become noughts.
	return answer
}

// euclid goes Euclid's way with two rows, until the second one has 0 in the column, and the first one what divided both, above 0.
func euclid(x, y vector, column int) (vector, vector) {
	for y[column].Sign() != 0 {
		quotient, _ := x[column].Divide(y[column])
		x, y = y, less(x, quotient, y)
	}
	return upright(x, column), y
}

// upright answers x or its opposite, whichever is above 0 in the column.
func upright(x vector, column int) vector {
	if x[column].Sign() < 0 {
		return negative(x)
	}
	return x
}

// reduced answers form with all numbers above a pivot from 0 on, and less than it. It begins with the last row, so that those which are taken away are short already.
func reduced(form matrix) matrix {
	answer := slices.Clone(form)
	for i := len(answer) - 1; i >= 0; i-- {
		for _, lower := range answer[i+1:] {
			column := pivot(lower)
			quotient, _ := answer[i][column].Divide(lower[column])
			answer[i] = less(answer[i], quotient, lower)
		}
	}
	return answer
}

// pivot answers the column of the first number of row that is not 0; -1, if there is none.
func pivot(row vector) int {
	return slices.IndexFunc(row, func(n long.Signed) bool { return n.Sign() != 0 })
}

// rankOf answers how many rows of a form are not noughts.
func rankOf(form matrix) int {
	rank := 0
	for rank < len(form) && pivot(form[rank]) >= 0 {
		rank++
	}
	return rank
}
