package prime

import (
	"arithmetica/modulo"
	"arithmetica/whole"
)

const (
	// mostTried is the greatest number that is tried as a divisor one by one; a walk finds greater ones sooner.
	mostTried = 1000
	// batch is how many steps of a walk are held against n together: a divisor of their product costs as much as one of a single step.
	batch = 128
)

// factors answers the primes whose product is n, in no order, for n from 1 on.
func factors(n int) []int {
	var list []int
	for p := range rising {
		if p > mostTried || p*p > n {
			break
		}
		for n%p == 0 {
			list = append(list, p)
			n /= p
		}
	}
	return appendGreat(list, n)
}

// appendGreat appends the primes whose product is n, where n is 1, a prime, or a product of primes above mostTried.
func appendGreat(list []int, n int) []int {
	if n == 1 {
		return list
	}
	if isPrime(n) {
		return append(list, n)
	}
	d := divisor(n)
	return appendGreat(appendGreat(list, d), n/d)
}

// divisor answers a number that divides n and is neither 1 nor n, where n is odd, above 1 and no prime.
//
// This ends: if p is the least prime that divides n, the first step of the walk by p - 2 leaves gcd(p (p + 4), n), and that of the walk by 2 p - 2 leaves gcd(4 p (p + 2), n). Both have p in them, and both were n only if n / p divided p + 4 and p + 2.
func divisor(n int) int {
	for c := 1; ; c++ {
		if d := walk(n, c); d != n {
			return d
		}
	}
}

// pacers are two that walk from 2 on by x^2 + c, left by n: one step and two steps at a time, so that they meet (Floyd) by a divisor of n, mostly ahead of by n itself (Pollard).
type pacers struct{ slow, fast, c, n int }

func (w pacers) step(x int) int {
	return (modulo.Product(x, x, w.n) + w.c) % w.n
}

func (w *pacers) move() {
	w.slow = w.step(w.slow)
	w.fast = w.step(w.step(w.fast))
}

func (w pacers) gap() int {
	return max(w.slow, w.fast) - min(w.slow, w.fast)
}

// walk answers a divisor of n above 1, which is n itself if the walk by c finds no other.
func walk(n, c int) int {
	w := pacers{slow: 2, fast: 2, c: c, n: n}
	for {
		start, product := w, 1
		for range batch {
			w.move()
			product = modulo.Product(product, w.gap(), n)
		}
		d, _ := whole.Gcd(product, n)
		if d == n {
			return start.meet()
		}
		if d > 1 {
			return d
		}
	}
}

// meet walks step by step until the two meet by a divisor of n above 1: a batch may have gone beyond that place.
func (w pacers) meet() int {
	for {
		w.move()
		if d, _ := whole.Gcd(w.gap(), w.n); d > 1 {
			return d
		}
	}
}
