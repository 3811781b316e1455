package curve_test

import (
	"math/big"
	"testing"

	"arithmetica/api"
	"arithmetica/curve"
	"arithmetica/sample"
)

const (
	top      = api.MaxNum
	greatest = 1999 // the greatest prime up to MaxTiny
)

var (
	none api.Fault
	far  = api.Point{Far: true}
)

func faultOf(code, at int) api.Fault { return api.Fault{Code: code, At: at} }

func at(x, y int) api.Point { return api.Point{X: x, Y: y} }

// rest answers what n leaves by m, from 0 on.
func rest(n, m int) int { return ((n % m) + m) % m }

func gcd(a, b int) int {
	return int(new(big.Int).GCD(nil, nil, big.NewInt(int64(a)), big.NewInt(int64(b))).Int64())
}

func isPrime(n int) bool {
	for d := 2; d < n; d++ {
		if n%d == 0 {
			return false
		}
	}
	return n > 1
}

func primes(from, to int) []int {
	var list []int
	for p := from; p <= to; p++ {
		if isPrime(p) {
			list = append(list, p)
		}
	}
	return list
}

// triple is the p, a, b of a curve.
type triple struct{ p, a, b int }

// value answers what x^3 + a x + b leaves.
func (c triple) value(x int) int { return rest(x*x*x+c.a*x+c.b, c.p) }

// isBent tells whether X^3 + a X + b has no root twice: then, and only then, p does not divide 4 a^3 + 27 b^2.
func (c triple) isBent() bool {
	for x := range c.p {
		if c.value(x) == 0 && rest(3*x*x+c.a, c.p) == 0 {
			return false
		}
	}
	return true
}

// has is the chapter's sentence on points.
func (c triple) has(q api.Point) bool {
	if q.Far {
		return q == far
	}
	if q.X < 0 || q.X > c.p-1 || q.Y < 0 || q.Y > c.p-1 {
		return false
	}
	return rest(c.value(q.X)-q.Y*q.Y, c.p) == 0
}

// tried answers Far, and then all points by trying each X and each Y.
func (c triple) tried() []api.Point {
	list := []api.Point{far}
	for x := range c.p {
		for y := range c.p {
			if c.has(at(x, y)) {
				list = append(list, at(x, y))
			}
		}
	}
	return list
}

func (c triple) areOpposite(q, r api.Point) bool {
	return q.X == r.X && rest(q.Y+r.Y, c.p) == 0
}

// byLine adds two points by the line through both, Y = k X + m: it meets the curve at a third point, and the sum is the opposite of that. Where q is r, the line is the one that meets the curve there twice. It answers how many lines there are, too.
func (c triple) byLine(q, r api.Point) (sum api.Point, lines int) {
	switch {
	case q.Far:
		return r, 1
	case r.Far:
		return q, 1
	case c.areOpposite(q, r):
		return far, 1
	}
	for k := range c.p {
		m := q.Y - k*q.X
		if rest(k*r.X+m-r.Y, c.p) != 0 {
			continue
		}
		// X^3 + a X + b - (k X + m)^2 must be (X - q.X) (X - r.X) (X - third).
		third := rest(k*k-q.X-r.X, c.p)
		if rest(q.X*r.X+(q.X+r.X)*third-c.a+2*k*m, c.p) == 0 && rest(q.X*r.X%c.p*third+c.b-m*m, c.p) == 0 {
			sum, lines = at(third, rest(-k*third-m, c.p)), lines+1
		}
	}
	return sum, lines
}

// chords adds the points of a curve by the chapter's words, with inverses that are found by trying.
type chords struct {
	triple
	inverse []int
}

func chordsOf(c triple) chords {
	inverse := make([]int, c.p)
	for x := 1; x < c.p; x++ {
		for y := 1; inverse[x] == 0; y++ {
			if x*y%c.p == 1 {
				inverse[x] = y
			}
		}
	}
	return chords{c, inverse}
}

func (c chords) sum(q, r api.Point) api.Point {
	switch {
	case q.Far:
		return r
	case r.Far:
		return q
	case c.areOpposite(q, r):
		return far
	}
	k := (r.Y - q.Y) * c.inverse[rest(r.X-q.X, c.p)]
	if q == r {
		k = (3*q.X*q.X + c.a) * c.inverse[rest(2*q.Y, c.p)]
	}
	k = rest(k, c.p)
	x := rest(k*k-q.X-r.X, c.p)
	return at(x, rest(k*(q.X-x)-q.Y, c.p))
}

// multiples answers Far, q, q and q, and so on, till Far would come again.
func (c chords) multiples(q api.Point) []api.Point {
	list := []api.Point{far}
	for sum := q; !sum.Far; sum = c.sum(sum, q) {
		list = append(list, sum)
	}
	return list
}

// multiple answers the one that q is when it is taken n times, where list has its multiples.
func multiple(list []api.Point, n int) api.Point { return list[rest(n, len(list))] }

// curvesBy answers all curves of p.
func curvesBy(p int) []triple {
	var list []triple
	for a := range p {
		for b := range p {
			if c := (triple{p, a, b}); c.isBent() {
				list = append(list, c)
			}
		}
	}
	return list
}

// smallCurves answers all curves of the primes up to so great a one.
func smallCurves(most int) []triple {
	var list []triple
	for _, p := range primes(5, most) {
		list = append(list, curvesBy(p)...)
	}
	return list
}

// greatCurves answers curves of the greatest primes: those with a and b at the edges, and so many others.
func greatCurves(many int) []triple {
	var list []triple
	add := func(c triple) {
		if c.isBent() {
			list = append(list, c)
		}
	}
	for _, p := range []int{greatest, 1997} {
		for _, a := range []int{0, 1, p - 1} {
			for _, b := range []int{0, 1, p - 1} {
				add(triple{p, a, b})
			}
		}
	}
	s := sample.NewStream()
	choice := primes(1000, api.MaxTiny)
	for i := range many {
		p := greatest
		if i%2 == 1 {
			p = choice[s.Below(len(choice))]
		}
		add(triple{p, s.Below(p), s.Below(p)})
	}
	return list
}

func pointsOf(t *testing.T, c triple) []api.Point {
	t.Helper()
	list, f := curve.Points(c.p, c.a, c.b)
	if f != none || len(list) == 0 {
		t.Fatalf("Points of %v: %v, %v", c, list, f)
	}
	return list
}

func add(t *testing.T, c triple, q, r api.Point) api.Point {
	t.Helper()
	sum, f := curve.Add(c.p, c.a, c.b, q, r)
	if f != none {
		t.Fatalf("Add of %v, %v and %v: %v", c, q, r, f)
	}
	return sum
}

func checkTimes(t *testing.T, c triple, n int, q, want api.Point) {
	t.Helper()
	if got, f := curve.Times(c.p, c.a, c.b, n, q); got != want || f != none {
		t.Fatalf("Times of %v, %d and %v: %v, %v, want %v", c, n, q, got, f, want)
	}
}

func checkOrder(t *testing.T, c triple, q api.Point, want int) {
	t.Helper()
	if got, f := curve.Order(c.p, c.a, c.b, q); got != want || f != none {
		t.Fatalf("Order of %v and %v: %d, %v, want %d", c, q, got, f, want)
	}
}

func checkShape(t *testing.T, c triple, n1, n2 int) {
	t.Helper()
	if got1, got2, f := curve.Shape(c.p, c.a, c.b); got1 != n1 || got2 != n2 || f != none {
		t.Fatalf("Shape of %v: %d, %d, %v, want %d, %d", c, got1, got2, f, n1, n2)
	}
}
