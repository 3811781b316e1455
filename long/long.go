// Package long reckons with whole numbers that no int holds: those from 0 on, and, by these, those of both signs.
package long

import (
	"cmp"
	"strconv"
	"strings"
)

const (
	digits = 9          // of one limb
	base   = 1000000000 // what one limb is below: ten to the power of digits
)

// MostTimes is the greatest number that Times takes: an int holds its product with a limb.
const MostTimes = base

// Number is a number from 0 on, which its calls leave as it is. The zero Number is 0.
type Number struct {
	limbs []int // from the least one on; the last one is not 0
}

// Of answers n, from 0 on, as a Number.
func Of(n int) Number {
	return Number{carried(nil, n)}
}

// Plus answers x + y.
func (x Number) Plus(y Number) Number {
	length := max(len(x.limbs), len(y.limbs))
	sum := make([]int, 0, length+1)
	carry := 0
	for i := range length {
		carry += x.limb(i) + y.limb(i)
		sum = append(sum, carry%base)
		carry /= base
	}
	return Number{carried(sum, carry)}
}

// Times answers x times, for times from 0 to MostTimes.
func (x Number) Times(times int) Number {
	if times == 0 {
		return Number{}
	}
	product := make([]int, 0, len(x.limbs)+1)
	carry := 0
	for _, limb := range x.limbs {
		carry += limb * times
		product = append(product, carry%base)
		carry /= base
	}
	return Number{carried(product, carry)}
}

// Minus answers x - y, for y up to x.
func (x Number) Minus(y Number) Number {
	left := make([]int, len(x.limbs))
	borrow := 0
	for i, limb := range x.limbs {
		limb -= y.limb(i) + borrow
		borrow = 0
		if limb < 0 {
			limb += base
			borrow = 1
		}
		left[i] = limb
	}
	return trimmed(left)
}

// Product answers x y.
func (x Number) Product(y Number) Number {
	product := make([]int, len(x.limbs)+len(y.limbs))
	for i, limb := range x.limbs {
		carry := 0
		for j, other := range y.limbs {
			carry += product[i+j] + limb*other
			product[i+j] = carry % base
			carry /= base
		}
		product[i+len(y.limbs)] = carry
	}
	return trimmed(product)
}

// Compare answers -1, 0 or 1: x is less than y, the same, or greater.
func (x Number) Compare(y Number) int {
	if order := cmp.Compare(len(x.limbs), len(y.limbs)); order != 0 {
		return order
	}
	for i := len(x.limbs) - 1; i >= 0; i-- {
		if order := cmp.Compare(x.limbs[i], y.limbs[i]); order != 0 {
			return order
		}
	}
	return 0
}

// IsZero tells whether x is 0.
func (x Number) IsZero() bool { return len(x.limbs) == 0 }

// Int answers x, up to math.MaxInt, as an int.
func (x Number) Int() int {
	n := 0
	for i := len(x.limbs) - 1; i >= 0; i-- {
		n = n*base + x.limbs[i]
	}
	return n
}

// String writes x in decimal.
func (x Number) String() string {
	last := len(x.limbs) - 1
	if last < 0 {
		return "0"
	}
	var text strings.Builder
	text.WriteString(strconv.Itoa(x.limbs[last]))
	for i := range last {
		limb := strconv.Itoa(x.limbs[last-1-i])
		text.WriteString(strings.Repeat("0", digits-len(limb)))
		text.WriteString(limb)
	}
	return text.String()
}

func (x Number) limb(i int) int {
	if i < len(x.limbs) {
		return x.limbs[i]
	}
	return 0
}

// carried appends what is carried beyond the last limb.
func carried(limbs []int, carry int) []int {
	for carry > 0 {
		limbs = append(limbs, carry%base)
		carry /= base
	}
	return limbs
}

// trimmed answers the Number of limbs without the noughts behind them.
func trimmed(limbs []int) Number {
	length := len(limbs)
	for length > 0 && limbs[length-1] == 0 {
		length--
	}
	return Number{limbs[:length]}
}
