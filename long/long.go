// Package long reckons with whole numbers from 0 on that no int holds.
package long

import (
	"strconv"
	"strings"
)

const (
	digits = 9          // of one limb
	base   = 1000000000 // what one limb is below: ten to the power of digits
)

// MostTimes is the greatest number that Times takes: an int holds its product with a limb.
const MostTimes = base

// Number is a number from 0 on, which its calls leave as it is. The zero Number is 0.
type Number struct {
	limbs []int // from the least one on; the last one is not 0
}

// Of answers n, from 0 on, as a Number.
func Of(n int) Number {
	return Number{carried(nil, n)}
}

// Plus answers x + y.
func (x Number) Plus(y Number) Number {
	var sum []int
	carry := 0
	for i := range max(len(x.limbs), len(y.limbs)) {
		carry += x.limb(i) + y.limb(i)
		sum = append(sum, carry%base)
		carry /= base
	}
	return Number{carried(sum, carry)}
}

// Times answers x times, for times from 0 to MostTimes.
func (x Number) Times(times int) Number {
	if times == 0 {
		return Number{}
	}
	var product []int
	carry := 0
	for _, limb := range x.limbs {
		carry += limb * times
		product = append(product, carry%base)
		carry /= base
	}
	return Number{carried(product, carry)}
}

// String writes x in decimal.
func (x Number) String() string {
	last := len(x.limbs) - 1
	if last < 0 {
		return "0"
	}
	var text strings.Builder
	text.WriteString(strconv.Itoa(x.limbs[last]))
	for i := range last {
		limb := strconv.Itoa(x.limbs[last-1-i])
		text.WriteString(strings.Repeat("0", digits-len(limb)))
		text.WriteString(limb)
	}
	return text.String()
}

func (x Number) limb(i int) int {
	if i < len(x.limbs) {
		return x.limbs[i]
	}
	return 0
}

// carried appends what is carried beyond the last limb.
func carried(limbs []int, carry int) []int {
	for carry > 0 {
		limbs = append(limbs, carry%base)
		carry /= base
	}
	return limbs
}
