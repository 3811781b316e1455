package bern

import (
	"arithmetica/long"
	"arithmetica/prime"
)

// numbers answers Bernoulli's numbers B0 to Bn, each of them times below.
//
// Below is such that all these are whole: what stands below in Bj is a product of different primes up to j + 1 (von Staudt, Clausen). So no fraction needs to be added to another one.
func numbers(n int) (above []long.Signed, below long.Signed) {
	below = primorial(n + 1)
	above = []long.Signed{below}
	choices := choicesOf(1)
	for range n {
		choices = oneMore(choices)
		above = append(above, next(above, choices))
	}
	return above, below
}

// next answers the first of the numbers that has no place in above yet: choices are those of one thing more than its own place tells.
func next(above, choices []long.Signed) long.Signed {
	var sum long.Signed
	for j, number := range above {
		sum = sum.Plus(choices[j].Product(number))
	}
	quotient, _ := sum.Divide(choices[len(above)])
	return quotient.Negative()
}

// primorial answers the product of all primes up to n.
func primorial(n int) long.Signed {
	product := long.SignedOf(1)
	for p := range n + 1 {
		if is, _ := prime.Is(p); is {
			product = product.Product(long.SignedOf(p))
		}
	}
	return product
}

// choicesOf answers in how many ways 0, 1, .., n of n things can be chosen.
func choicesOf(n int) []long.Signed {
	choices := []long.Signed{long.SignedOf(1)}
	for range n {
		choices = oneMore(choices)
	}
	return choices
}

// oneMore answers the choices of one thing more.
func oneMore(choices []long.Signed) []long.Signed {
	last := len(choices) - 1
	more := []long.Signed{long.SignedOf(1)}
	for i := range last {
		more = append(more, choices[i].Plus(choices[i+1]))
	}
	return append(more, long.SignedOf(1))
}
