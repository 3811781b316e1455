package bern

import "arithmetica/long"

// formula answers the parts c0 to c(k+1) of Faulhaber's formula, each of them times below.
func formula(k int) (above []long.Signed, below long.Signed) {
	bernoulli, below := numbers(k)
	choices := choicesOf(k + 1)
	above = make([]long.Signed, k+2)
	for j := range k + 1 {
		above[k+1-j] = choices[j].Product(bernoulli[j])
	}
	above[k] = above[k].Negative() // of B1, else the formula would sum up to n - 1; c0, if k is 0
	return above, below.Product(long.SignedOf(k + 1))
}

// sum answers 1^k + .. + n^k.
func sum(k, n int) long.Signed {
	above, below := formula(k)
	by := long.SignedOf(n)
	var value long.Signed
	for i := range above {
		value = value.Product(by).Plus(above[len(above)-1-i])
	}
	whole, _ := value.Divide(below)
	return whole
}
