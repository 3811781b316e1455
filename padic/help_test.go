package padic_test

import (
	"math"
	"math/big"
	"slices"

	"arithmetica/api"
	"arithmetica/sample"
)

const (
	top   = api.MaxNum
	small = api.MaxSmall
	tiny  = api.MaxTiny
)

var none api.Fault

func faultOf(code, at int) api.Fault { return api.Fault{Code: code, At: at} }

func large(n int) *big.Int { return big.NewInt(int64(n)) }

// raised answers n to the power of times, where an int holds it.
func raised(n, times int) int { return int(longRaised(n, times).Int64()) }

func longRaised(n, times int) *big.Int { return new(big.Int).Exp(large(n), large(times), nil) }

// isPrime tries all divisors.
func isPrime(n int) bool {
	for d := 2; d*d <= n; d++ {
		if n%d == 0 {
			return false
		}
	}
	return n > 1
}

// value answers what l leaves at x, left by m: each number times its power of x.
func value(l []int, x, m int) int {
	sum, power := new(big.Int), large(1)
	for _, n := range l {
		sum.Add(sum, new(big.Int).Mul(large(n), power))
		power.Mul(power, large(x))
	}
	return int(sum.Mod(sum, large(m)).Int64())
}

// slope answers what the derivative of l leaves at x, left by m.
func slope(l []int, x, m int) int {
	sum, power := new(big.Int), large(1)
	for i := 1; i < len(l); i++ {
		term := new(big.Int).Mul(large(l[i]), large(i))
		sum.Add(sum, term.Mul(term, power))
		power.Mul(power, large(x))
	}
	return int(sum.Mod(sum, large(m)).Int64())
}

func isNumber(n int) bool { return -top <= n && n <= top }

// wrongPower tells what all calls must say first.
func wrongPower(p, k int) api.Fault {
	if p < 2 || p > small {
		return faultOf(api.ErrRange, 0)
	}
	if !isPrime(p) {
		return faultOf(api.ErrKind, 0)
	}
	if k < 1 || k > 60 {
		return faultOf(api.ErrRange, 1)
	}
	if longRaised(p, k).Cmp(large(top)) > 0 {
		return faultOf(api.ErrMuch, 1)
	}
	return none
}

// wrongPolynomial tells what Lift and Roots must say first.
func wrongPolynomial(p, k int, l []int) api.Fault {
	if f := wrongPower(p, k); f != none {
		return f
	}
	if len(l) > 13 {
		return faultOf(api.ErrMany, 2)
	}
	for _, n := range l {
		if !isNumber(n) {
			return faultOf(api.ErrRange, 2)
		}
	}
	return none
}

// power is a prime and how often it is taken.
type power struct{ p, k int }

func (m power) number() int { return raised(m.p, m.k) }

// powersOf answers all powers, up to most, of these primes.
func powersOf(most int, primes ...int) []power {
	var list []power
	for _, p := range primes {
		for k := 1; longRaised(p, k).Cmp(large(most)) <= 0; k++ {
			list = append(list, power{p, k})
		}
	}
	return list
}

// primesUpTo answers all primes up to most.
func primesUpTo(most int) []int {
	var list []int
	for n := 2; n <= most; n++ {
		if isPrime(n) {
			list = append(list, n)
		}
	}
	return list
}

// chosenPrimes are small ones, those next to MaxList, MaxTiny and MaxSmall, and those whose powers are the nearest to MaxNum.
func chosenPrimes() []int {
	return []int{2, 3, 5, 7, 11, 13, 17, 19, 23, 31, 43, 61, 97, 173, 367, 499, 997, 1009, 1999, 2003, 3967, 31607, 31627, 99991, 999979, 999983}
}

// wildPrimes are numbers that may stand as p, and those that may not.
func wildPrimes() []int {
	return []int{
		math.MinInt, -top - 1, -top, -999983, -7, -2, -1, 0, 1, 2, 3, 4, 5, 6, 9, 25, 341, 561, 997, 1009, 1999, 2000, 2003, 31607, 994009, 999981, 999983, 999999,
		small, small + 1, 1000003, 1<<31 - 1, 999999999999999989, top, top + 1, math.MaxInt,
	}
}

// wildExponents are numbers that may stand as k, and those that may not.
func wildExponents() []int {
	return []int{math.MinInt, -top - 1, -60, -1, 0, 1, 2, 3, 4, 5, 6, 7, 37, 38, 58, 59, 60, 61, 62, 64, 127, top + 1, math.MaxInt}
}

// wildPolynomials are those that may be handed in, and those that may not.
func wildPolynomials() [][]int {
	fourteen := slices.Repeat([]int{1}, 14)
	spoilt := slices.Clone(fourteen)
	spoilt[3] = top + 1
	return [][]int{
		nil, {}, {0}, {1}, {-2, 0, 1}, {0, 1}, {0, 0, 1}, {-1, 1}, {top}, {-top}, {top, -top, top},
		slices.Repeat([]int{0}, 13), slices.Repeat([]int{1}, 13), slices.Repeat([]int{top}, 13), slices.Repeat([]int{-top}, 13),
		fourteen, slices.Repeat([]int{0}, 14), slices.Repeat([]int{1}, 1000), spoilt,
		{top + 1}, {-top - 1}, {math.MinInt, 1}, {0, math.MaxInt}, {0, 1, -top - 1}, append(slices.Repeat([]int{0}, 12), top+1), slices.Repeat([]int{math.MinInt}, 13), slices.Repeat([]int{math.MinInt}, 14),
	}
}

// drawnPolynomials answers polynomials of 0 to 13 numbers of all lengths, of each so many.
func drawnPolynomials(many int) [][]int {
	numbers := sample.Spread(many * 13 * 14)
	var list [][]int
	for terms := range 14 {
		for range many {
			list = append(list, slices.Clone(numbers[:terms]))
			numbers = numbers[terms:]
		}
	}
	return list
}

// steep answers l with small numbers, each of which has p in it so often, or less by its place if it is bent: such ones leave 0 at many numbers.
func steep(l []int, p, times int, bent bool) []int {
	var answer []int
	for i, n := range l {
		often := times
		if bent {
			often = max(times-i, 0)
		}
		answer = append(answer, n%1000*raised(p, often))
	}
	return answer
}

// polynomialAt answers the polynomial that leaves 0, left by m, just at these, if they differ by p: the product of x less each.
func polynomialAt(list []int, m int) []int {
	l := []*big.Int{large(1)}
	for _, root := range list {
		next := []*big.Int{new(big.Int)}
		for i, n := range l {
			next = append(next, large(0))
			next[i].Sub(next[i], new(big.Int).Mul(n, large(root)))
			next[i+1].Add(next[i+1], n)
		}
		l = next
	}
	var answer []int
	for i, n := range l {
		left := int(n.Mod(n, large(m)).Int64())
		// As many are below 0 as not.
		if i%2 == 0 {
			left -= m
		}
		answer = append(answer, left)
	}
	return answer
}

// differing answers up to so many numbers from 0 to M - 1, of which no two leave the same by p.
func differing(m power, many int) []int {
	var list []int
	left := map[int]bool{}
	edges := []int{0, m.number() - 1, m.p - 1, m.number() - m.p}
	for _, n := range append(edges, sample.Spread(200)...) {
		root := int(new(big.Int).Mod(large(n), large(m.number())).Int64())
		if !left[root%m.p] && len(list) < many {
			left[root%m.p] = true
			list = append(list, root)
		}
	}
	return list
}
