package grid

import (
	"slices"

	"arithmetica/long"
)

// smith answers Smith's numbers d of m, and unimodular u and v, for which u m v has d on its diagonal, and noughts elsewhere.
//
// Hermite's form of m, and that of what comes out, turned, leave numbers in the first rows and columns alone, as many as the rank, and none below the diagonal. From there on form is u m v, turned, with v, turned, beside it: adding rows of form adds columns of v, and adding columns goes with adding rows of u. For each place of the diagonal, what the columns from there on have as a divisor is gathered in the first of them; the form anew has it on the diagonal, and it divides all that stands right of it and below. So at last each row is cleared by its number on the diagonal.
//
// Nothing grows long: in each form, those rows are free of each other, and so there is just one way to it.
func smith(m matrix) (d vector, u, v matrix) {
	h, u := hermite(m)
	rank := rankOf(h)
	form := formOf(beside(turned(h), identity(len(m[0]))))
	for i := range rank {
		for j := i + 1; j < rank; j++ {
			form = gathered(form, u, i, j)
		}
		form = formOf(form)
	}
	for i := range rank {
		for j := i + 1; j < rank; j++ {
			times, _ := form[i][j].Divide(form[i][i])
			u[j] = less(u[j], times, u[i])
		}
	}
	core, w := split(form, len(m))
	return diagonal(core), u, turned(w)
}

// gathered adds column j of form to column i, and so row j of u to row i, until the numbers of column i, from row i on, have no other divisors than those of both columns.
//
// It ends. With the common divisor of both divided away, a prime p that divides column i after some steps does so at one of p steps alone, and divides all determinants of two rows of both columns; as neither column is a multiple of the other, there are finitely many such p. So there is a number of steps, by the Chinese remainders, at which none of them does.
func gathered(form, u matrix, i, j int) matrix {
	want := divisor(form[i:], i).Gcd(divisor(form[i:], j))
search:
	for {
		var common long.Number
		for _, row := range form[i:] {
			common = common.Gcd(row[i].Size())
			if common.Compare(want) == 0 {
				break search
			}
		}
		form = added(form, i, j)
		u[i] = less(u[i], long.SignedOf(-1), u[j])
	}
	return form
}

// divisor answers the greatest common divisor of the numbers of a column.
func divisor(rows matrix, column int) long.Number {
	var common long.Number
	for _, row := range rows {
		common = common.Gcd(row[column].Size())
	}
	return common
}

// added answers form with column j added to column i.
func added(form matrix, i, j int) matrix {
	var answer matrix
	for _, row := range form {
		line := slices.Clone(row)
		line[i] = line[i].Plus(line[j])
		answer = append(answer, line)
	}
	return answer
}

func diagonal(m matrix) vector {
	var answer vector
	for i := range min(len(m), len(m[0])) {
		answer = append(answer, m[i][i])
	}
	return answer
}
