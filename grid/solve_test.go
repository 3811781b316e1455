package grid_test

import (
	"math/big"
	"testing"

	"arithmetica/grid"
	"arithmetica/sample"
)

func column(b []int) bigs { return turned(bigsOf([][]int{b})) }

// mean answers m x.
func mean(m [][]int, x []int) []int {
	var answer []int
	for _, row := range m {
		sum := 0
		for j, n := range row {
			sum += n * x[j]
		}
		answer = append(answer, sum)
	}
	return answer
}

// isImpossible tells whether Smith's numbers show that no x of whole numbers has m x = b: a row of u, times m, has the divisor d, but times b it has not. The numbers behind those of d are 0.
func isImpossible(t *testing.T, m [][]int, b []int) bool {
	t.Helper()
	d, u := checkSmith(t, m)
	of := product(u, column(b))
	for i := range u {
		number := new(big.Int)
		if i < len(d) {
			number = d[i]
		}
		if divides(number, of[i][0]) {
			continue
		}
		for _, n := range product(u[i:i+1], bigsOf(m))[0] {
			if !divides(number, n) {
				t.Fatalf("Smith(%v): row %d of u does not lead to multiples of %s", m, i, number)
			}
		}
		return true
	}
	return false
}

// checkKernel holds k against P12.4: its rows lead to noughts, are as many as they must be, and no multiple of a whole number above 1 of what is no sum of them is one.
func checkKernel(t *testing.T, m [][]int, kText [][]string) bigs {
	t.Helper()
	columns := len(m[0])
	many := columns - rankOf(m)
	k := decimals(t, kText, many, columns)
	for _, z := range k {
		if !isNought(product(bigs{z}, turned(bigsOf(m)))[0]) {
			t.Fatalf("Solve(%v): m z is not 0 for %v", m, z)
		}
	}
	if many > 0 && divisorOfMinors(k, many).Cmp(large(1)) != 0 {
		t.Fatalf("Solve(%v): there are more z than the sums of %v", m, kText)
	}
	return k
}

// checkSolve holds Solve against P12.4, and answers k and whether there is an x.
func checkSolve(t *testing.T, m [][]int, b []int) (k bigs, ok bool) {
	t.Helper()
	xText, kText, f := grid.Solve(m, b)
	if isImpossible(t, m, b) {
		if f != faultOf(5, 0) || len(xText) != 0 || len(kText) != 0 {
			t.Fatalf("Solve(%v, %v): %v, %v, %v, want ErrNone at 0", m, b, xText, kText, f)
		}
		return nil, false
	}
	if f != none {
		t.Fatalf("Solve(%v, %v): %v", m, b, f)
	}
	x := decimals(t, [][]string{xText}, 1, len(m[0]))
	if !isSame(product(bigsOf(m), turned(x)), column(b)) {
		t.Fatalf("Solve(%v, %v): m x is not b for %v", m, b, xText)
	}
	return checkKernel(t, m, kText), true
}

// TestSolveOfMatricesOfAllShapes: with a b for which there is an x, and with others.
func TestSolveOfMatricesOfAllShapes(t *testing.T) {
	s := newStream()
	solved, unsolved := 0, 0
	for _, m := range append(matrices(), steep()...) {
		x := sample.Filled(1, len(m[0]), func(i, j int) int { return s.UpTo(4) })[0]
		lists := [][]int{
			make([]int, len(m)),
			mean(m, x),
			sample.Filled(1, len(m), func(i, j int) int { return s.UpTo(small) })[0],
			sample.Filled(1, len(m), func(i, j int) int { return small * (1 - 2*s.Below(2)) })[0],
			sample.Filled(1, len(m), func(i, j int) int { return s.UpTo(3) })[0],
			turned(m)[s.Below(len(m[0]))],
		}
		for i, b := range lists {
			if grid.Check([][]int{b}) != none {
				continue
			}
			_, ok := checkSolve(t, m, b)
			if ok {
				solved++
			} else {
				unsolved++
			}
			if !ok && (i < 2 || i == 5) {
				t.Fatalf("Solve(%v, %v): there is an x", m, b)
			}
		}
	}
	if solved < 1000 || unsolved < 1000 {
		t.Errorf("there are %d with x and %d without", solved, unsolved)
	}
}

// box answers all lists of so many numbers from -most to most.
func box(length, most int) [][]int {
	if length == 0 {
		return [][]int{nil}
	}
	var list [][]int
	for _, shorter := range box(length-1, most) {
		for n := -most; n <= most; n++ {
			list = append(list, append(shorter[:len(shorter):len(shorter)], n))
		}
	}
	return list
}

// smallOnes answers matrices of few rows and columns with small entries.
func smallOnes() [][][]int {
	s := newStream()
	list := [][][]int{{{0}}, {{2}}, {{-3}}, {{4, 6}}, {{4}, {6}}, {{0, 0}}, {{2, 4}, {3, 5}}, {{6, 10, 15}}, {{2, 2}, {2, 2}}, {{1, 1, 1}, {0, 2, 4}}, {{2, 0, 0, 0}, {0, 3, 0, 0}}}
	for rows := 1; rows <= 4; rows++ {
		for columns := 1; columns <= 4; columns++ {
			for most := 1; most <= 4; most++ {
				list = append(list, sample.Filled(rows, columns, func(i, j int) int { return s.UpTo(most) }), s.ofRank(rows, columns, 1, most), s.ofRank(rows, columns, 2, most))
			}
		}
	}
	return list
}

// TestSolveByTryingAll: whatever small x is tried, its m x has an answer, and so has no other b among small ones, of those that Smith's numbers do not tell.
func TestSolveByTryingAll(t *testing.T) {
	for _, m := range smallOnes() {
		reached := map[[4]int]int{}
		for _, x := range box(len(m[0]), 3) {
			var b [4]int
			copy(b[:], mean(m, x))
			reached[b]++
		}
		for _, list := range box(len(m), []int{0, 12, 6, 3, 2}[len(m)]) {
			var b [4]int
			copy(b[:], list)
			if _, _, f := grid.Solve(m, list); f != none && reached[b] > 0 {
				t.Fatalf("Solve(%v, %v): %v, but there is an x", m, list, f)
			}
		}
		for _, list := range box(len(m), []int{0, 12, 2, 1, 1}[len(m)]) {
			checkSolve(t, m, list)
		}
	}
}

// multiples answers the fractions by which the rows of k are z in sum, if there are any; the rows are free of each other.
func multiples(k bigs, z []int) ([]*big.Rat, bool) {
	rows := make([][]*big.Rat, len(z))
	for j := range z {
		for _, row := range k {
			rows[j] = append(rows[j], new(big.Rat).SetInt(row[j]))
		}
		rows[j] = append(rows[j], new(big.Rat).SetInt64(int64(z[j])))
	}
	for i := range k {
		at := i
		for rows[at][i].Sign() == 0 {
			at++
		}
		rows[i], rows[at] = rows[at], rows[i]
		for j := range rows {
			if j == i {
				continue
			}
			times := new(big.Rat).Quo(rows[j][i], rows[i][i])
			for column := range rows[j] {
				rows[j][column] = new(big.Rat).Sub(rows[j][column], new(big.Rat).Mul(times, rows[i][column]))
			}
		}
	}
	var answer []*big.Rat
	for i, row := range rows {
		if i >= len(k) && row[len(k)].Sign() != 0 {
			return nil, false
		}
		if i < len(k) {
			answer = append(answer, new(big.Rat).Quo(row[len(k)], row[i]))
		}
	}
	return answer, true
}

// TestKernelByTryingAll: whatever small z has m z = 0 is a sum of whole multiples of the rows of k.
func TestKernelByTryingAll(t *testing.T) {
	tried := 0
	for _, m := range smallOnes() {
		k, _ := checkSolve(t, m, make([]int, len(m)))
		for _, z := range box(len(m[0]), []int{0, 9, 9, 6, 4}[len(m[0])]) {
			if !isNought(bigsOf([][]int{mean(m, z)})[0]) {
				continue
			}
			tried++
			list, ok := multiples(k, z)
			if !ok {
				t.Fatalf("Solve(%v): %v is no sum of %v", m, z, k)
			}
			for _, times := range list {
				if !times.IsInt() {
					t.Fatalf("Solve(%v): %v is a sum of %v by %v", m, z, k, list)
				}
			}
		}
	}
	if tried < 5000 {
		t.Errorf("only %d are tried", tried)
	}
}

// TestSolveOfOneRow: there is an x just if the greatest common divisor of the row divides b.
func TestSolveOfOneRow(t *testing.T) {
	s := newStream()
	for n := range 500 {
		m := sample.Filled(1, n%8+1, func(i, j int) int { return s.UpTo(small) / (n%5 + 1) * (n%5 + 1) })
		common := new(big.Int)
		for _, entry := range bigsOf(m)[0] {
			common.GCD(nil, nil, common, new(big.Int).Abs(entry))
		}
		for _, b := range []int{0, 1, -1, 2, 3, 12, 60, small, -small, s.UpTo(small), int(common.Int64()), -int(common.Int64())} {
			if _, ok := checkSolve(t, m, []int{b}); ok != divides(common, large(b)) {
				t.Fatalf("Solve(%v, %d): %v", m, b, ok)
			}
		}
	}
}

func TestSolveOfChosenMatrices(t *testing.T) {
	for _, c := range []struct {
		m  [][]int
		b  []int
		ok bool
		k  int
	}{
		{[][]int{{4, 6}}, []int{2}, true, 1},
		{[][]int{{4, 6}}, []int{3}, false, 0},
		{[][]int{{1, 0}, {0, 1}}, []int{7, -7}, true, 0},
		{[][]int{{2, 0}, {0, 2}}, []int{7, -7}, false, 0},        // there are fractions alone
		{[][]int{{1, 1}, {1, -1}}, []int{1, 0}, false, 0},        // so too
		{[][]int{{1, 1}, {1, -1}}, []int{2, 0}, true, 0},         // just one
		{[][]int{{1, 1}, {2, 2}}, []int{1, 3}, false, 0},         // nor are there fractions
		{[][]int{{1, 1}, {2, 2}}, []int{1, 2}, true, 1},          // many
		{[][]int{{0, 0}, {0, 0}}, []int{0, 0}, true, 2},          // all
		{[][]int{{0, 0}, {0, 0}}, []int{0, 1}, false, 0},         // none
		{[][]int{{3}, {6}}, []int{-9, -18}, true, 0},             // more rows than columns
		{[][]int{{3}, {6}}, []int{-9, 18}, false, 0},             // so too
		{[][]int{{0}}, []int{0}, true, 1},                        // all of one number
		{[][]int{{0}}, []int{small}, false, 0},                   // none
		{[][]int{{-small}}, []int{small}, true, 0},               // just one
		{[][]int{{small}}, []int{1}, false, 0},                   // a fraction alone
		{[][]int{{6, 10, 15}}, []int{1}, true, 2},                // many, though no two are without a divisor
		{[][]int{{2, 4}, {3, 5}}, []int{small, -1}, true, 0},     // just one, with a b of different sizes
		{[][]int{{2, 4}, {3, 5}}, []int{small - 1, 0}, false, 0}, // a fraction alone
	} {
		k, ok := checkSolve(t, c.m, c.b)
		if ok != c.ok || len(k) != c.k {
			t.Errorf("Solve(%v, %v): %v, %d rows, want %v, %d", c.m, c.b, ok, len(k), c.ok, c.k)
		}
	}
}
