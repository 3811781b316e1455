package equation_test

import (
	"math"
	"math/big"
	"slices"

	"arithmetica/api"
	"arithmetica/sample"
)

const (
	top     = api.MaxNum
	billion = 1000000000
)

var none api.Fault

func faultOf(code, at int) api.Fault { return api.Fault{Code: code, At: at} }

func size(n int) int { return max(n, -n) }

func large(n int) *big.Int { return big.NewInt(int64(n)) }

// product answers the numbers' product, however long it is.
func product(numbers ...int) *big.Int {
	answer := large(1)
	for _, n := range numbers {
		answer.Mul(answer, large(n))
	}
	return answer
}

func sum(parts ...*big.Int) *big.Int {
	answer := new(big.Int)
	for _, p := range parts {
		answer.Add(answer, p)
	}
	return answer
}

func gcd(numbers ...int) int {
	g := new(big.Int)
	for _, n := range numbers {
		g.GCD(nil, nil, g, large(size(n)))
	}
	return int(g.Int64())
}

// wrongs are the edges of an int, and numbers beyond the bounds of this layer and beside them.
func wrongs() []int {
	const low = 1 << 32
	return slices.Concat(sample.Edges(), sample.Beyond(), []int{
		-billion - 1, -billion, -billion + 1, billion - 1, billion + 1, -3001, -3000, 2999, 3000, 3001, -1001, -1000, -999, 998, 999, 1000, 1001,
		low + 1, low + 3, low + 1000, low - 1, 1 << 62, -1 << 62, 1<<63 - 2, math.MinInt + 2,
	})
}

// isBefore tells whether p stands ahead of q, by what they have at the places, from the first on.
func isBefore(p, q [3]int, places ...int) bool {
	for _, i := range places {
		if p[i] != q[i] {
			return p[i] < q[i]
		}
	}
	return false
}

// upTo answers the triples of list whose last number is at most most.
func upTo(most int, list [][3]int) [][3]int {
	return slices.DeleteFunc(slices.Clone(list), func(p [3]int) bool { return p[2] > most })
}
