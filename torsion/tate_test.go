package torsion_test

import (
	"math/big"
	"slices"
	"testing"
)

// normal is the curve y^2 + (1 - c) x y - b y = x^3 - b x^2, on which 0, 0 is a point; for each order from 4 on, all curves with such a point are told by b and c alone (Tate, Kubert).
type normal struct{ b, c *big.Rat }

// by tells b and c as they are reckoned from another two numbers: c = f d - f, b = c d.
func by(f, d *big.Rat) normal {
	c := minus(times(f, d), f)
	return normal{times(c, d), c}
}

// ofEight tells those in which 0, 0 has the order 8.
func ofEight(d *big.Rat) normal {
	b := times(minus(times(rat(2), d), rat(1)), minus(d, rat(1)))
	return normal{b, over(b, d)}
}

// kubert answers the curve of a number t in which 0, 0 has the order n2, for a shape n1, n2 that the points of finite order have at least; where a step divides by 0, there is none.
func kubert(shape [2]int, t *big.Rat) (curve normal, ok bool) {
	defer func() {
		// Package big panics where a step divides by 0.
		if recover() != nil {
			curve, ok = normal{}, false
		}
	}()
	one, two := rat(1), rat(2)
	switch shape {
	case [2]int{1, 4}:
		return normal{t, rat(0)}, true
	case [2]int{1, 5}:
		return normal{t, t}, true
	case [2]int{1, 6}:
		return normal{plus(t, times(t, t)), t}, true
	case [2]int{1, 7}:
		return by(t, t), true
	case [2]int{1, 8}:
		return ofEight(t), true
	case [2]int{1, 9}:
		return by(t, plus(times(t, minus(t, one)), one)), true
	case [2]int{1, 10}:
		return by(t, over(times(t, t), minus(t, power(minus(t, one), 2)))), true
	case [2]int{1, 12}:
		m := over(minus(minus(times(rat(3), t), times(rat(3), times(t, t))), one), minus(t, one))
		return by(over(m, minus(one, t)), plus(m, t)), true
	case [2]int{2, 4}:
		return normal{minus(times(t, t), big.NewRat(1, 16)), rat(0)}, true
	case [2]int{2, 6}:
		c := over(minus(rat(10), times(two, t)), minus(times(t, t), rat(9)))
		return normal{plus(c, times(c, c)), c}, true
	case [2]int{2, 8}:
		up := times(t, plus(times(rat(8), t), two))
		return ofEight(over(up, minus(times(rat(8), times(t, t)), one))), true
	}
	return normal{}, false
}

// short answers a and b of the same curve as Y^2 = X^3 + a X + b, and the point that 0, 0 becomes there.
func (n normal) short() (a, b *big.Rat, q spot) {
	a1, a3 := minus(rat(1), n.c), minus(rat(0), n.b)
	b2, b4, b6 := minus(times(a1, a1), times(rat(4), n.b)), times(a1, a3), times(a3, a3)
	c4 := minus(times(b2, b2), times(rat(24), b4))
	c6 := minus(minus(times(rat(36), times(b2, b4)), power(b2, 3)), times(rat(216), b6))
	return times(rat(-27), c4), times(rat(-54), c6), spot{x: times(rat(3), b2), y: times(rat(108), a3)}
}

// least answers the scale s for which a s^4 and b s^6 are whole, and as small as they come so, as far as primes up to 100 go.
func least(a, b *big.Rat) *big.Rat {
	s := new(big.Rat).SetInt(new(big.Int).Mul(a.Denom(), b.Denom()))
	for p := 2; p <= 100; p++ {
		for next := over(s, rat(p)); times(a, power(next, 4)).IsInt() && times(b, power(next, 6)).IsInt(); next = over(s, rat(p)) {
			s = next
		}
	}
	return s
}

// within answers n as all curves within the bounds that are the same but for a scale, with the point that 0, 0 becomes.
func (n normal) within() map[pair]spot {
	a, b, q := n.short()
	list := map[pair]spot{}
	first := least(a, b)
	for times := 1; ; times++ {
		s := new(big.Rat).Mul(first, rat(times))
		x, y := new(big.Rat).Mul(a, power(s, 4)), new(big.Rat).Mul(b, power(s, 6))
		if !isWithin(x) || !isWithin(y) {
			return list
		}
		c := pair{int(x.Num().Int64()), int(y.Num().Int64())}
		list[c] = spot{x: new(big.Rat).Mul(q.x, power(s, 2)), y: new(big.Rat).Mul(q.y, power(s, 3))}
	}
}

func isWithin(n *big.Rat) bool {
	return n.IsInt() && new(big.Rat).Abs(n).Cmp(rat(bounds)) <= 0
}

// isBent tells whether n is a curve: 4 a^3 + 27 b^2 is not 0.
func (n normal) isBent() bool {
	a, b, _ := n.short()
	return plus(times(rat(4), power(a, 3)), times(rat(27), times(b, b))).Sign() != 0
}

// TestShapesFromTheirNormalForms: of each shape of Mazur's list with an order from 4 on, the curves of all small fractions; those within the bounds have the point that they are made from, and a shape that goes with it.
func TestShapesFromTheirNormalForms(t *testing.T) {
	met := map[[2]int]map[pair]bool{}
	for _, shape := range [][2]int{{1, 4}, {1, 5}, {1, 6}, {1, 7}, {1, 8}, {1, 9}, {1, 10}, {1, 12}, {2, 4}, {2, 6}, {2, 8}} {
		curves := 0
		met[shape] = map[pair]bool{}
		for down := 1; down <= 16; down++ {
			for up := -40; up <= 40; up++ {
				n, ok := kubert(shape, big.NewRat(int64(up), int64(down)))
				if !ok || gcd(up, down) != 1 || !n.isBent() {
					continue
				}
				curves++
				a, _, q := n.short()
				if order, _ := orderOf(a, q); order != shape[1] {
					t.Fatalf("%v of %d / %d: the order is %d", shape, up, down, order)
				}
				for c, q := range n.within() {
					checkMade(t, c, shape, q)
					met[shape][c] = true
				}
			}
		}
		if curves < 500 {
			t.Errorf("of %v only %d curves were made", shape, curves)
		}
	}
	// Of the other shapes there are no such small curves.
	for shape, curves := range met {
		if want := shape == [2]int{1, 4} || shape == [2]int{1, 6} || shape == [2]int{1, 7}; want != (len(curves) > 0) {
			t.Errorf("of %v these curves were met: %v", shape, curves)
		}
	}
}

// checkMade: q is a point of c, and the points of c have at least that shape.
func checkMade(t *testing.T, c pair, shape [2]int, q spot) {
	t.Helper()
	if list := pointsOf(t, c); !q.isWhole() || !slices.Contains(list, q.point()) {
		t.Fatalf("Points of %v: %v, without %v", c, list, q)
	}
	if got := shapeOf(t, c); got[0]%shape[0] != 0 || got[1]%shape[1] != 0 {
		t.Fatalf("Shape of %v: %v, want %v", c, got, shape)
	}
}
