package desk

import (
	"strconv"

	"arithmetica/api"
	"arithmetica/cont"
	"arithmetica/curve"
	"arithmetica/equation"
	"arithmetica/hang"
	"arithmetica/partition"
	"arithmetica/prime"
	"arithmetica/quad"
	"arithmetica/residue"
	"arithmetica/whole"
)

// calls answers the questions that are answered by a call of another layer.
func calls() table {
	number, text := said(strconv.Itoa), said(asItIs)
	return table{
		"gcd":        {2, func(n []int) string { return number(whole.Gcd(n[0], n[1])) }},
		"inverse":    {2, func(n []int) string { return number(whole.Inverse(n[0], n[1])) }},
		"power":      {3, func(n []int) string { return number(whole.Power(n[0], n[1], n[2])) }},
		"prime":      {1, func(n []int) string { return said(yesOrNo)(prime.Is(n[0])) }},
		"next":       {1, func(n []int) string { return number(prime.Next(n[0])) }},
		"factor":     {1, func(n []int) string { return said(product)(prime.Factor(n[0])) }},
		"phi":        {1, func(n []int) string { return number(hang.Phi(n[0])) }},
		"order":      {2, func(n []int) string { return number(hang.Order(n[0], n[1])) }},
		"jacobi":     {2, func(n []int) string { return number(residue.Jacobi(n[0], n[1])) }},
		"roots":      {2, func(n []int) string { return said(roots)(residue.Roots(n[0], n[1])) }},
		"classes":    {1, func(n []int) string { return said(many[api.Form])(quad.Classes(n[0])) }},
		"expand":     {2, func(n []int) string { return said(row)(cont.Expand(n[0], n[1])) }},
		"pell":       {1, func(n []int) string { return text(pell(n[0])) }},
		"points":     {3, func(n []int) string { return said(many[api.Point])(curve.Points(n[0], n[1], n[2])) }},
		"markov":     {1, func(n []int) string { return said(many[[3]int])(equation.Markov(n[0])) }},
		"partitions": {1, func(n []int) string { return text(partition.Count(n[0])) }},
	}
}

// said makes a line of what a call answers: what tell makes of it, or its fault.
func said[T any](tell func(T) string) func(T, api.Fault) string {
	return func(x T, f api.Fault) string {
		if f.Code != api.OK {
			return lineOf("fault", f.Code, f.At)
		}
		return tell(x)
	}
}

func asItIs(text string) string { return text }

func yesOrNo(is bool) string {
	if is {
		return "yes"
	}
	return "no"
}

// product writes the primes of a number; 1 has none.
func product(powers []api.Power) string {
	if len(powers) == 0 {
		return "1"
	}
	return joined(asPowers(powers))
}

func roots(list []int) string {
	if len(list) == 0 {
		return "none"
	}
	return row(list)
}

func row(list []int) string { return joined(inDecimal(list)) }

// many writes how many there are.
func many[T any](list []T) string { return strconv.Itoa(len(list)) }

// pell answers x and y in one line.
func pell(d int) (string, api.Fault) {
	x, y, f := cont.Pell(d)
	return x + " " + y, f
}
