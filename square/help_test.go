package square_test

import (
	"math"
	"math/big"
	"slices"

	"arithmetica/api"
	"arithmetica/sample"
)

const (
	top      = api.MaxNum
	greatest = 999999999999999989 // the greatest prime up to MaxNum
)

var none api.Fault

func faultOf(code, at int) api.Fault { return api.Fault{Code: code, At: at} }

func large(n int) *big.Int { return big.NewInt(int64(n)) }

// raised answers n to the power of times, where an int holds it.
func raised(n, times int) int {
	return int(new(big.Int).Exp(large(n), large(times), nil).Int64())
}

func squareRoot(n int) int { return int(new(big.Int).Sqrt(large(n)).Int64()) }

// knownPrime asks math/big, which is certain below 2^64.
func knownPrime(n int) bool { return n > 1 && large(n).ProbablyPrime(0) }

// squaresAre tells whether the squares of list are n in sum, by long numbers.
func squaresAre(list []int, n int) bool {
	sum := new(big.Int)
	for _, x := range list {
		sum.Add(sum, new(big.Int).Mul(large(x), large(x)))
	}
	return sum.Cmp(large(n)) == 0
}

// isFalling tells whether no number of list is above the one ahead of it, and none below 0.
func isFalling(list []int) bool {
	for i, x := range list {
		if x < 0 || i > 0 && x > list[i-1] {
			return false
		}
	}
	return true
}

// hasNoThree tells whether n is a power of four times a number that leaves 7, left by 8.
func hasNoThree(n int) bool {
	for fours := 1; fours <= n; fours *= 4 {
		if n%fours == 0 && n/fours%8 == 7 {
			return true
		}
	}
	return false
}

// beyond are numbers that are below 0 or above MaxNum.
func beyond() []int {
	return []int{math.MinInt, math.MinInt + 1, -top - 1, -top, -1000000001, -25, -7, -4, -2, -1, top + 1, top + 2, top + 9, 1 << 60, 1 << 62, math.MaxInt - 1, math.MaxInt}
}

// wantRange tells what a call must say of n, if n may be from 0 to most.
func wantRange(n, most int) api.Fault {
	if n < 0 || n > most {
		return faultOf(api.ErrRange, 0)
	}
	return none
}

// fours are all 4^i times a number that leaves 7, left by 8, for some such numbers of all lengths, up to MaxNum.
func fours() []int {
	var list []int
	for times := range 30 {
		power := raised(4, times)
		most := top / power
		for _, rest := range []int{7, 15, 23, 31, 39, 47, 55, 63, 71, 79, 719, 5607, 99999, most/2 - (most/2)%8 - 1, most - most%8 - 9, most - most%8 - 1, most - (most+1)%8} {
			if 0 < rest && rest <= most && rest%8 == 7 {
				list = append(list, rest*power)
			}
		}
	}
	for _, n := range sample.Positive(500) {
		n -= n%8 + 1
		for n > 0 {
			list = append(list, n)
			if n > top/4 {
				break
			}
			n *= 4
		}
	}
	slices.Sort(list)
	return slices.Compact(list)
}

// chosen are numbers of all sorts from 0 to MaxNum: small ones, those at the bound, squares and twice squares, powers, primes, and those next to all these.
func chosen() []int {
	list := []int{
		0, 1, 2, 3, 7, 25, 28, 50, 325, 1105, 5525, 27625, 71825, 138125, 160225, 801125,
		1<<31 - 1, 999999937, 1000000007, 1000000009, 999999929 * 999999937, greatest, top / 2, top / 4, top / 8, top - 1000, top,
		999999999 * 999999999, 999999998 * 999999998, 2 * 707106781 * 707106781, 2 * 707106780 * 707106780, 3 * 577350269 * 577350269,
		614889782588491410, 897612484786617600, 99041478029967655, 48612265 * 48612265,
	}
	for base := 2; base <= 17; base++ {
		for power := 1; power <= top/base; power *= base {
			list = append(list, power, power*base)
		}
	}
	for root := 1; root <= 600000000; root = root*2 + 1 {
		list = append(list, root*root, 2*root*root)
	}
	var near []int
	for _, n := range list {
		for d := -9; d <= 9; d++ {
			if 0 <= n+d && n+d <= top {
				near = append(near, n+d)
			}
		}
	}
	slices.Sort(near)
	return slices.Compact(near)
}
