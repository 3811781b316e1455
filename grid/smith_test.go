package grid_test

import (
	"math/big"
	"testing"

	"arithmetica/grid"
	"arithmetica/sample"
)

// divides tells whether x divides y; all divide 0, and 0 divides 0 alone.
func divides(x, y *big.Int) bool {
	if x.Sign() == 0 {
		return y.Sign() == 0
	}
	return new(big.Int).Rem(y, x).Sign() == 0
}

// checkSmith holds Smith against P12.3, and answers d and u.
func checkSmith(t *testing.T, m [][]int) (d []*big.Int, u bigs) {
	t.Helper()
	dText, uText, vText, f := grid.Smith(m)
	if f != none {
		t.Fatalf("Smith(%v): %v", m, f)
	}
	rows, columns := len(m), len(m[0])
	d = decimals(t, [][]string{dText}, 1, min(rows, columns))[0]
	u, v := decimals(t, uText, rows, rows), decimals(t, vText, columns, columns)
	if !isUnimodular(u) || !isUnimodular(v) {
		t.Fatalf("Smith(%v): not unimodular: %v, %v", m, uText, vText)
	}
	for i, row := range product(product(u, bigsOf(m)), v) {
		for j, n := range row {
			if i != j && n.Sign() != 0 || i == j && n.Cmp(d[i]) != 0 {
				t.Fatalf("Smith(%v): u m v has %s at %d, %d; d is %v", m, n, i, j, dText)
			}
		}
	}
	for i, n := range d {
		if n.Sign() < 0 || i > 0 && !divides(d[i-1], n) {
			t.Fatalf("Smith(%v): %v", m, dText)
		}
	}
	return d, u
}

func TestSmithOfMatricesOfAllShapes(t *testing.T) {
	for _, m := range append(matrices(), steep()...) {
		checkSmith(t, m)
	}
}

func TestSmithOfAllSmallMatrices(t *testing.T) {
	for n := range 2401 {
		checkSmith(t, [][]int{{n%7 - 3, n/7%7 - 3}, {n/49%7 - 3, n/343 - 3}})
	}
	for n := range 729 {
		a, b, c, d, e, f := n%3-1, n/3%3-1, n/9%3-1, n/27%3-1, n/81%3-1, n/243-1
		checkSmith(t, [][]int{{2 * a, 3 * b, 6 * c}, {3 * d, 2 * e, 4 * f}})
		checkSmith(t, [][]int{{2 * a, 3 * b}, {6 * c, 4 * d}, {2 * e, 2 * f}})
	}
}

// TestSmithByMinors: the product of the first numbers of d is the greatest common divisor of the determinants of all parts of so many rows and columns.
func TestSmithByMinors(t *testing.T) {
	for _, m := range append(matrices(), steep()...) {
		if min(len(m), len(m[0])) > 4 {
			continue
		}
		d, _ := checkSmith(t, m)
		product := large(1)
		for i, n := range d {
			product.Mul(product, n)
			if want := divisorOfMinors(bigsOf(m), i+1); product.Cmp(want) != 0 {
				t.Fatalf("Smith(%v): %v, where the first %d have the product %s", m, d, i+1, want)
			}
		}
	}
}

func checkNumbers(t *testing.T, m [][]int, want ...int) {
	t.Helper()
	if d, _ := checkSmith(t, m); !isSame(bigs{d}, bigsOf([][]int{want})) {
		t.Errorf("Smith(%v): %v, want %v", m, d, want)
	}
}

func TestSmithOfChosenMatrices(t *testing.T) {
	checkNumbers(t, [][]int{{2, 0}, {0, 3}}, 1, 6)
	checkNumbers(t, [][]int{{0, 0, 0}, {0, 4, 6}}, 2, 0)
	checkNumbers(t, [][]int{{0}}, 0)
	checkNumbers(t, [][]int{{-7}}, 7)
	checkNumbers(t, [][]int{{0, 0}, {0, 0}, {0, 0}}, 0, 0)
	checkNumbers(t, [][]int{{6, 10, 15}}, 1)
	checkNumbers(t, [][]int{{12}, {-18}, {0}}, 6)
	checkNumbers(t, [][]int{{4, 0}, {0, 6}}, 2, 12)
	checkNumbers(t, [][]int{{0, 6}, {4, 0}}, 2, 12)
	checkNumbers(t, [][]int{{6, 0, 0}, {0, 10, 0}, {0, 0, 15}}, 1, 30, 30)
	checkNumbers(t, [][]int{{2, 4, 4}, {-6, 6, 12}, {10, -4, -16}}, 2, 6, 12)
	checkNumbers(t, [][]int{{1, 2, 3}, {4, 5, 6}, {7, 8, 9}}, 1, 3, 0)
	checkNumbers(t, sample.Filled(8, 8, func(i, j int) int { return small }), small, 0, 0, 0, 0, 0, 0, 0)
	checkNumbers(t, hadamard(), small, 2*small, 2*small, 2*small, 4*small, 4*small, 4*small, 8*small)
}

// TestSmithOfHiddenNumbers: d stays what it is, when rows and columns are added to each other, and when m is turned.
func TestSmithOfHiddenNumbers(t *testing.T) {
	s := newStream()
	hidden := 0
	for n := range 600 {
		rows, columns := n%8+1, n/8%8+1
		var want []int
		last := 1
		for range min(rows, columns) {
			last *= []int{1, 1, 1, 2, 3, 6, 1, 0}[s.Below(8)]
			want = append(want, last)
		}
		m := sample.Filled(rows, columns, func(i, j int) int {
			if i == j {
				return want[i]
			}
			return 0
		})
		for range 3 * max(rows, columns) {
			mix(m, s)
			m = turned(m)
		}
		if grid.Check(m) != none {
			continue
		}
		hidden++
		checkNumbers(t, m, want...)
		checkNumbers(t, turned(m), want...)
	}
	if hidden < 400 {
		t.Errorf("only %d have small entries", hidden)
	}
}

// mix adds one row of m to another one, or takes it away, and swaps them.
func mix(m [][]int, s stream) {
	i, j := s.Below(len(m)), s.Below(len(m))
	if i == j {
		return
	}
	sign := 1 - 2*s.Below(2)
	for column := range m[i] {
		m[i][column] += sign * m[j][column]
	}
	m[i], m[j] = m[j], m[i]
}
