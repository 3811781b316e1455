package frac_test

import (
	"math"
	"math/big"
	"slices"
	"testing"

	"arithmetica/api"
	"arithmetica/sample"
)

const (
	top         = api.MaxNum
	small       = api.MaxSmall
	mostEgypt   = 1000
	mostDecimal = 5000
)

var none api.Fault

func faultOf(code, at int) api.Fault { return api.Fault{Code: code, At: at} }

func fraction(up, down int) api.Frac { return api.Frac{Up: up, Down: down} }

func large(n int) *big.Int { return big.NewInt(int64(n)) }

func size(n int) int { return max(n, -n) }

func gcd(a, b int) int {
	for b != 0 {
		a, b = b, a%b
	}
	return size(a)
}

func isNumber(n int) bool { return -top <= n && n <= top }

// wrong tells what is wrong with each fraction that is handed in.
func wrong(x api.Frac) api.Fault {
	if !isNumber(x.Up) || !isNumber(x.Down) {
		return faultOf(api.ErrRange, 0)
	}
	if x.Down < 1 || gcd(x.Up, x.Down) != 1 {
		return faultOf(api.ErrForm, 0)
	}
	return none
}

// checkAnswer looks at the form of a fraction that is answered.
func checkAnswer(t *testing.T, x api.Frac) {
	t.Helper()
	if f := wrong(x); f != none {
		t.Errorf("%v is answered, which has %v", x, f)
	}
}

// isLess tells whether x is below y; an int holds their products.
func isLess(x, y api.Frac) bool { return x.Up*y.Down < y.Up*x.Down }

// edges are numbers at all bounds of this layer, beside them and beyond, and the edges of an int.
func edges() []int {
	list := slices.Concat(sample.Edges(), sample.Beyond(), []int{
		-small, 1 - small, small - 1, small, -8, -3, 4, 5, 7, 8, 12, 49, 50, 51, 52, 120, 999, 1000, 1001, 4999, 5000, 5001, 19999, 20000, 20001, 20002, 20003,
		1<<32 + 7, 1<<32 + 50, 1 << 62, -1 << 62, math.MinInt + 2, math.MinInt + 5000,
	})
	slices.Sort(list)
	return slices.Compact(list)
}

// pairs are all fractions of two edges, right and wrong ones.
func pairs() []api.Frac {
	var list []api.Frac
	for _, up := range edges() {
		for _, down := range edges() {
			list = append(list, fraction(up, down))
		}
	}
	return list
}

// right are all fractions in lowest terms with an Up and a Down within bounds.
func right(leastUp, mostUp, mostDown int) []api.Frac {
	var list []api.Frac
	for down := 1; down <= mostDown; down++ {
		for up := leastUp; up <= mostUp; up++ {
			if gcd(up, down) == 1 {
				list = append(list, fraction(up, down))
			}
		}
	}
	return list
}

// drawn are fractions above 0 with parts of all lengths, in lowest terms.
func drawn(many int) []api.Frac {
	var list []api.Frac
	for both := range slices.Chunk(sample.Spread(2*many), 2) {
		up, down := size(both[0]), size(both[1])
		if up == 0 || down == 0 {
			continue
		}
		g := gcd(up, down)
		list = append(list, fraction(up/g, down/g))
	}
	return list
}

// checkOutcomes fails, unless just these faults are met.
func checkOutcomes(t *testing.T, outcomes map[api.Fault]int, want ...api.Fault) {
	t.Helper()
	for _, f := range want {
		if outcomes[f] == 0 {
			t.Errorf("no case has %v", f)
		}
	}
	if len(outcomes) != len(want) {
		t.Errorf("there are other outcomes: %v", outcomes)
	}
}
