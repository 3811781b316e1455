package square

import (
	"math/bits"
	"strconv"

	"arithmetica/hang"
	"arithmetica/long"
	"arithmetica/prime"
)

// many answers how many rows there are, for k = 2, 4 or 8.
func many(n, k int) string {
	// All numbers divide 0, but only the row of noughts has it as its sum.
	if n == 0 {
		return "1"
	}
	switch k {
	case 2:
		return strconv.Itoa(manyOfTwo(n))
	case 4:
		return strconv.Itoa(manyOfFour(n))
	}
	return manyOfEight(n).String()
}

func manyOfTwo(n int) int {
	powers, _ := prime.Factor(n)
	return 4 * quarter(powers)
}

// manyOfFour answers 8 times the sum of the divisors that 4 does not divide (Jacobi): the odd ones, and, if n is even, twice each of them.
func manyOfFour(n int) int {
	odd := n >> bits.TrailingZeros64(uint64(n))
	sum, _ := hang.Sum(odd)
	if n%2 == 0 {
		sum *= 3
	}
	return 8 * sum
}

// manyOfEight answers 16 times the sum of the cubes of all divisors, where, if n is even, those of the odd ones are taken away instead (Jacobi). As with sums of divisors, each power of a prime brings a factor.
func manyOfEight(n int) long.Number {
	powers, _ := prime.Factor(n)
	answer := long.Of(16)
	for _, p := range powers {
		if p.Prime == 2 {
			answer = timesCubesOfTwo(answer, p.Times)
		} else {
			answer = timesCubes(answer, p.Prime, p.Times)
		}
	}
	return answer
}

// timesCubes answers x times the sum of the cubes of 1, p, and so on up to p to the power of times, for p up to long.MostTimes.
func timesCubes(x long.Number, p, times int) long.Number {
	sum, term := x, x
	for range times {
		term = term.Times(p).Times(p).Times(p)
		sum = sum.Plus(term)
	}
	return sum
}

// timesCubesOfTwo answers x times the sum of the cubes of 2, 4, and so on up to 2 to the power of times, less 1, for times from 1 on. It begins with 8 less 1, as long numbers are not below 0.
func timesCubesOfTwo(x long.Number, times int) long.Number {
	sum, term := x.Times(7), x.Times(8)
	for range times - 1 {
		term = term.Times(8)
		sum = sum.Plus(term)
	}
	return sum
}
