package grid_test

import (
	"math/big"
	"slices"
	"testing"

	"arithmetica/grid"
	"arithmetica/sample"
)

// pivotOf answers where the first number of row that is not 0 stands; -1, if there is none.
func pivotOf(row []*big.Int) int {
	return slices.IndexFunc(row, func(n *big.Int) bool { return n.Sign() != 0 })
}

// isForm tells whether h is in Hermite's form, sentence by sentence.
func isForm(h bigs) bool {
	last, ended := -1, false
	for i, row := range h {
		column := pivotOf(row)
		if column < 0 {
			ended = true
			continue
		}
		if ended || column <= last || row[column].Sign() < 0 {
			return false
		}
		last = column
		for _, upper := range h[:i] {
			if upper[column].Sign() < 0 || upper[column].Cmp(row[column]) >= 0 {
				return false
			}
		}
	}
	return true
}

// checkHermite holds Hermite against P12.2, and answers h.
func checkHermite(t *testing.T, m [][]int) bigs {
	t.Helper()
	hText, uText, f := grid.Hermite(m)
	if f != none {
		t.Fatalf("Hermite(%v): %v", m, f)
	}
	h, u := decimals(t, hText, len(m), len(m[0])), decimals(t, uText, len(m), len(m))
	if !isUnimodular(u) {
		t.Fatalf("Hermite(%v): u is not unimodular: %v", m, uText)
	}
	if !isSame(product(u, bigsOf(m)), h) {
		t.Fatalf("Hermite(%v): %v is not u m, with u = %v", m, hText, uText)
	}
	if !isForm(h) {
		t.Fatalf("Hermite(%v): %v is not in its form", m, hText)
	}
	return h
}

func TestHermiteOfMatricesOfAllShapes(t *testing.T) {
	for _, m := range append(matrices(), steep()...) {
		checkHermite(t, m)
	}
}

func TestHermiteOfAllSmallMatrices(t *testing.T) {
	for n := range 2401 {
		checkHermite(t, [][]int{{n%7 - 3, n/7%7 - 3}, {n/49%7 - 3, n/343 - 3}})
	}
	for n := range 729 {
		a, b, c, d, e, f := n%3-1, n/3%3-1, n/9%3-1, n/27%3-1, n/81%3-1, n/243-1
		checkHermite(t, [][]int{{a, b, c}, {d, e, f}})
		checkHermite(t, [][]int{{a, b}, {c, d}, {e, f}})
	}
}

// TestIsFormTellsWhatIsNone: the sentences that the tests above hold h against are told apart.
func TestIsFormTellsWhatIsNone(t *testing.T) {
	for _, m := range [][][]int{{{1, 1}, {0, 2}}, {{0, 1}, {0, 0}}, {{0, 0}}, {{3, 2, 9}, {0, 3, -9}}, {{1, 0, 5}, {0, 1, -7}, {0, 0, 0}}} {
		if !isForm(bigsOf(m)) {
			t.Errorf("%v is in its form", m)
		}
	}
	for _, m := range [][][]int{{{1, 2}, {0, 2}}, {{1, -1}, {0, 2}}, {{0, 0}, {0, 1}}, {{-1, 0}, {0, 1}}, {{1, 0}, {1, 1}}, {{0, 1}, {1, 0}}, {{0, 1}, {0, 1}}, {{1, 1}, {0, -2}}} {
		if isForm(bigsOf(m)) {
			t.Errorf("%v is not in its form", m)
		}
	}
}

func TestHermiteOfChosenMatrices(t *testing.T) {
	power := func(exponent int) *big.Int { return new(big.Int).Exp(large(10), large(exponent), nil) }
	for _, c := range []struct {
		m    [][]int
		want bigs
	}{
		{[][]int{{2, 4}, {3, 5}}, bigsOf([][]int{{1, 1}, {0, 2}})},
		{[][]int{{-5}}, bigsOf([][]int{{5}})},
		{[][]int{{0}}, bigsOf([][]int{{0}})},
		{[][]int{{4}, {6}}, bigsOf([][]int{{2}, {0}})},
		{[][]int{{4, 6}}, bigsOf([][]int{{4, 6}})},
		{[][]int{{-4, 6}}, bigsOf([][]int{{4, -6}})},
		{[][]int{{0, 0}, {0, -3}}, bigsOf([][]int{{0, 3}, {0, 0}})},
		{[][]int{{1, 2, 3}, {4, 5, 6}, {7, 8, 9}}, bigsOf([][]int{{1, 2, 3}, {0, 3, 6}, {0, 0, 0}})},
		{[][]int{{small, 1}, {1, small}}, bigs{{large(1), large(small)}, {large(0), new(big.Int).Sub(power(12), large(1))}}},
	} {
		if h := checkHermite(t, c.m); !isSame(h, c.want) {
			t.Errorf("Hermite(%v): %v, want %v", c.m, h, c.want)
		}
	}
}

// TestHermiteOfTheSameSums: there is just one h for rows that have the same sums of whole multiples.
func TestHermiteOfTheSameSums(t *testing.T) {
	s := newStream()
	for n := range 600 {
		rows, columns := n%8+1, n/8%8+1
		m := sample.Filled(rows, columns, func(i, j int) int { return s.UpTo(1000) })
		if n%3 == 0 {
			m = s.ofRank(rows, columns, 1+s.Below(min(rows, columns)), 9)
		}
		want := checkHermite(t, m)
		other := sample.Guarded(m)
		for range 12 {
			i, j := s.Below(rows), s.Below(rows)
			for column := range other[i] {
				if i == j {
					other[i][column] *= -1
				} else {
					other[i][column] += (n%3 - 1) * other[j][column]
				}
			}
			other[i], other[j] = other[j], other[i]
		}
		if f := grid.Check(other); f == none && !isSame(checkHermite(t, other), want) {
			t.Fatalf("Hermite differs of %v and %v", m, other)
		}
	}
}
