package grid

import (
	"slices"

	"arithmetica/long"
)

// vector is a row of a matrix. Its numbers are left as they are: what is reckoned is a new one.
type vector []long.Signed

// matrix is a list of rows of the same length.
type matrix []vector

func read(rows ...[]int) matrix {
	var answer matrix
	for _, row := range rows {
		var line vector
		for _, n := range row {
			line = append(line, long.SignedOf(n))
		}
		answer = append(answer, line)
	}
	return answer
}

func written(m matrix) [][]string {
	var answer [][]string
	for _, row := range m {
		var line []string
		for _, n := range row {
			line = append(line, n.String())
		}
		answer = append(answer, line)
	}
	return answer
}

// identity answers the matrix of so many rows that has 1 on its diagonal, and 0 elsewhere.
func identity(size int) matrix {
	answer := make(matrix, size)
	for i := range answer {
		answer[i] = make(vector, size)
		answer[i][i] = long.SignedOf(1)
	}
	return answer
}

// turned answers the matrix whose rows are the columns of m, which has at least one row.
func turned(m matrix) matrix {
	answer := make(matrix, len(m[0]))
	for i := range answer {
		for _, row := range m {
			answer[i] = append(answer[i], row[i])
		}
	}
	return answer
}

// beside answers the matrix whose rows are those of all parts, which have as many, one behind the other.
func beside(parts ...matrix) matrix {
	var answer matrix
	for i := range parts[0] {
		var line vector
		for _, part := range parts {
			line = append(line, part[i]...)
		}
		answer = append(answer, line)
	}
	return answer
}

// split answers the first columns of m, so many, and the others.
func split(m matrix, columns int) (first, others matrix) {
	for _, row := range m {
		first = append(first, slices.Clone(row[:columns]))
		others = append(others, slices.Clone(row[columns:]))
	}
	return first, others
}

// less answers x - times y.
func less(x vector, times long.Signed, y vector) vector {
	if times.Sign() == 0 {
		return x
	}
	answer := make(vector, len(x))
	for i := range x {
		answer[i] = x[i].Minus(times.Product(y[i]))
	}
	return answer
}

func negative(x vector) vector {
	answer := make(vector, len(x))
	for i, n := range x {
		answer[i] = n.Negative()
	}
	return answer
}
