package quad_test

import (
	"math/big"
	"slices"

	"arithmetica/api"
	"arithmetica/sample"
)

const small = api.MaxSmall

var none api.Fault

func faultOf(code, at int) api.Fault { return api.Fault{Code: code, At: at} }

func form(a, b, c int) api.Form { return api.Form{A: a, B: b, C: c} }

func size(n int) int { return max(n, -n) }

func large(n int) *big.Int { return big.NewInt(int64(n)) }

func value(f api.Form, x, y int) int { return f.A*x*x + f.B*x*y + f.C*y*y }

func discriminant(f api.Form) int { return f.B*f.B - 4*f.A*f.C }

func opposite(f api.Form) api.Form { return form(f.A, -f.B, f.C) }

// gcd answers the greatest number that divides all of list.
func gcd(list ...int) int {
	answer := new(big.Int)
	for _, n := range list {
		answer.GCD(nil, nil, answer, new(big.Int).Abs(large(n)))
	}
	return int(answer.Int64())
}

// wrong tells what Check must say, by long numbers.
func wrong(f api.Form) api.Fault {
	for at, n := range []int{f.A, f.B, f.C} {
		if n < -small || n > small {
			return faultOf(api.ErrRange, at)
		}
	}
	if f.A <= 0 || longOf(f).discriminant().Sign() >= 0 {
		return faultOf(api.ErrKind, 0)
	}
	if gcd(f.A, f.B, f.C) != 1 {
		return faultOf(api.ErrForm, 0)
	}
	return none
}

// isReduced is the chapter's sentence.
func isReduced(f api.Form) bool {
	if size(f.B) > f.A || f.A > f.C {
		return false
	}
	if size(f.B) == f.A || f.A == f.C {
		return f.B >= 0
	}
	return true
}

// formsWithin answers all forms whose parts are at most so great in size, the wrong ones too.
func formsWithin(most int) []api.Form {
	var list []api.Form
	for a := -most; a <= most; a++ {
		for b := -most; b <= most; b++ {
			for c := -most; c <= most; c++ {
				list = append(list, form(a, b, c))
			}
		}
	}
	return list
}

// fine leaves out the wrong ones.
func fine(list []api.Form) []api.Form {
	return slices.DeleteFunc(list, func(f api.Form) bool { return wrong(f) != none })
}

// turn answers the form whose value at x, y is f's at p x + q y, r x + s y.
func turn(f api.Form, m [4]int) api.Form {
	p, q, r, s := m[0], m[1], m[2], m[3]
	return form(value(f, p, r), 2*f.A*p*q+f.B*(p*s+q*r)+2*f.C*r*s, value(f, q, s))
}

// turns answers all p, q, r, s, at most so great in size, with p s - q r = 1.
func turns(most int) [][4]int {
	var list [][4]int
	for p := -most; p <= most; p++ {
		for q := -most; q <= most; q++ {
			for r := -most; r <= most; r++ {
				for s := -most; s <= most; s++ {
					if p*s-q*r == 1 {
						list = append(list, [4]int{p, q, r, s})
					}
				}
			}
		}
	}
	return list
}

// farTurns answers such ones with great numbers: the last of the rows of a continued fraction, which take a form far from its reduced one.
func farTurns() [][4]int {
	var list [][4]int
	for _, quotients := range [][]int{{1}, {1, 2}, {3, 1, 1}, {-1, 4}, {100, 2}, {-7, -30}, {990}, {2, -3}} {
		m := [4]int{1, 0, 0, 1}
		for i := 0; max(size(m[0]), size(m[1]), size(m[2]), size(m[3])) < 1000; i++ {
			k := quotients[i%len(quotients)]
			m = [4]int{k*m[0] + m[1], -m[0], k*m[2] + m[3], -m[2]}
			list = append(list, m)
			if i > 30 { // quotients of changing signs may come back
				break
			}
		}
	}
	return list
}

// smalls answers small numbers of all lengths, and the edges.
func smalls(many int) []int {
	list := slices.DeleteFunc(sample.Spread(3*many), func(n int) bool { return size(n) > small })
	return append(list, -small, 1-small, -2, -1, 0, 1, 2, small-1, small)
}

// greatForms answers forms of all lengths up to MaxSmall, of which Check says nothing: those whose parts are drawn, those whose B is as great as it may be, which are far from reduced, and those of small discriminants, turned far.
func greatForms(many int) []api.Form {
	var list []api.Form
	numbers := smalls(3 * many)
	for i := range many {
		a, b, c := size(numbers[3*i%len(numbers)]), numbers[(3*i+1)%len(numbers)], size(numbers[(3*i+2)%len(numbers)])
		list = append(list, form(a, b, c))
		most := int(new(big.Int).Sqrt(large(4 * a * c)).Int64())
		list = append(list, form(a, most, c), form(a, -most, c), form(a, most-1, c), form(a, 1-most, c))
	}
	for _, f := range []api.Form{form(1, 1, 1), form(1, 0, 1), form(2, -1, 3), form(3, 2, 4), form(7, 5, 11), form(1, 1, 41), form(31, -30, 47)} {
		for _, m := range farTurns() {
			list = append(list, turn(f, m))
		}
	}
	for _, a := range []int{1, 2, 250000, 250001, small - 1, small} {
		for _, b := range []int{-small, 1 - small, -2, -1, 0, 1, 2, small - 1, small} {
			for _, c := range []int{1, 2, 250000, 250001, small - 1, small} {
				list = append(list, form(a, b, c))
			}
		}
	}
	return fine(list)
}
