package grid_test

import (
	"math/big"
	"testing"

	"arithmetica/grid"
	"arithmetica/sample"
)

func checkDet(t *testing.T, m [][]int, want string) {
	t.Helper()
	if text, f := grid.Det(m); text != want || f != none {
		t.Fatalf("Det(%v): %s, %v, want %s", m, text, f, want)
	}
}

// TestDetByOtherWays: by going along the rows, and by fractions.
func TestDetByOtherWays(t *testing.T) {
	outcomes := map[int]int{}
	for _, m := range squares() {
		want := expanded(bigsOf(m))
		checkDet(t, m, want.String())
		if byFractions, _ := eliminated(bigsOf(m)); byFractions.Cmp(new(big.Rat).SetInt(want)) != 0 {
			t.Fatalf("the test's own ways differ: %v", m)
		}
		outcomes[want.Sign()]++
	}
	for sign := -1; sign <= 1; sign++ {
		if outcomes[sign] < 100 {
			t.Errorf("of the signs there are %v", outcomes)
		}
	}
}

func TestDetOfAllSmallMatrices(t *testing.T) {
	for n := range 625 {
		a, b, c, d := n%5-2, n/5%5-2, n/25%5-2, n/125-2
		checkDet(t, [][]int{{a, b}, {c, d}}, large(a*d-b*c).String())
	}
	for n := range 19683 {
		m := sample.Filled(3, 3, func(i, j int) int {
			entry := n%3 - 1
			n /= 3
			return entry
		})
		byRule := m[0][0]*m[1][1]*m[2][2] + m[0][1]*m[1][2]*m[2][0] + m[0][2]*m[1][0]*m[2][1] - m[0][2]*m[1][1]*m[2][0] - m[0][1]*m[1][0]*m[2][2] - m[0][0]*m[1][2]*m[2][1]
		checkDet(t, m, large(byRule).String())
	}
}

func TestDetOfChosenMatrices(t *testing.T) {
	for _, c := range []struct {
		m    [][]int
		want string
	}{
		{[][]int{{0}}, "0"},
		{[][]int{{-1}}, "-1"},
		{[][]int{{small}}, "1000000"},
		{[][]int{{-small}}, "-1000000"},
		{[][]int{{1, 2, 3}, {4, 5, 6}, {7, 8, 10}}, "-3"},
		{[][]int{{0, 1}, {1, 0}}, "-1"},
		{[][]int{{0, 0, 1}, {1, 0, 0}, {0, 1, 0}}, "1"},
		{[][]int{{0, 0, 2}, {0, 3, 0}, {5, 0, 0}}, "-30"},
		{[][]int{{small, small}, {-small, small}}, "2000000000000"},
		{[][]int{{1, 2}, {2, 4}}, "0"},
		{hadamard(), "4096000000000000000000000000000000000000000000000000"},
	} {
		checkDet(t, c.m, c.want)
	}
	swapped := hadamard()
	swapped[2], swapped[7] = swapped[7], swapped[2]
	checkDet(t, swapped, "-4096000000000000000000000000000000000000000000000000")
	swapped[4] = swapped[1]
	checkDet(t, swapped, "0")
}

// TestDetOfProducts: it is the product of both; and of what is turned it is the same.
func TestDetOfProducts(t *testing.T) {
	s := newStream()
	for n := range 400 {
		size := n%8 + 1
		a := sample.Filled(size, size, func(i, j int) int { return s.UpTo(300) })
		b := sample.Filled(size, size, func(i, j int) int { return s.UpTo(300) })
		both := sample.Filled(size, size, func(i, j int) int {
			sum := 0
			for k := range size {
				sum += a[i][k] * b[k][j]
			}
			return sum
		})
		ofA, _ := grid.Det(a)
		ofB, _ := grid.Det(b)
		x, y := decimals(t, [][]string{{ofA, ofB}}, 1, 2)[0][0], decimals(t, [][]string{{ofA, ofB}}, 1, 2)[0][1]
		checkDet(t, both, new(big.Int).Mul(x, y).String())
		checkDet(t, turned(a), ofA)
	}
}
