package lattice_test

import (
	"slices"
	"testing"

	"arithmetica/lattice"
	"arithmetica/sample"
)

// checkReduce holds Reduce against its own sentence, and answers what it answered.
func checkReduce(t *testing.T, b [][]int) [][]int {
	t.Helper()
	answer, f := lattice.Reduce(b)
	if f != none || len(answer) != len(b) {
		t.Fatalf("Reduce(%v): %v, %v", b, answer, f)
	}
	for _, row := range answer {
		if len(row) != len(b[0]) {
			t.Fatalf("Reduce(%v): %v", b, answer)
		}
	}
	own, _ := starsOf(b)
	x, ok := starsOf(answer)
	if !ok || !x.isReduced() {
		t.Fatalf("Reduce(%v): %v is not reduced", b, answer)
	}
	if !own.hasAll(answer) || !x.hasAll(b) {
		t.Fatalf("Reduce(%v): %v is of another lattice", b, answer)
	}
	return answer
}

// checkFirst holds the first row of a reduced basis against the least norm.
func checkFirst(t *testing.T, reduced [][]int, least int) {
	t.Helper()
	if norm(reduced[0]) > least<<(len(reduced)-1) {
		t.Fatalf("the first row of %v is too long: the least norm is %d", reduced, least)
	}
}

func TestReduceOfBasesOfAllKinds(t *testing.T) {
	for _, b := range bases() {
		answer := checkReduce(t, b)
		_, least, _ := lattice.Short(b)
		checkFirst(t, answer, least)
	}
}

// TestReduceOfSmallBases: and Reduced, against the same sentence.
func TestReduceOfSmallBases(t *testing.T) {
	outcomes := map[bool]int{}
	for _, b := range smallBases() {
		checkReduced(t, b, outcomes)
		checkReduce(t, b)
	}
	if outcomes[true] < 1000 || outcomes[false] < 1000 {
		t.Errorf("of the outcomes there are %v", outcomes)
	}
}

// smallBases answers bases of one row, two and three, with small entries: for most shapes all of them, for the others each so many-th.
func smallBases() [][][]int {
	var list [][][]int
	for _, c := range []struct{ rows, columns, most, every int }{{1, 1, 9, 1}, {1, 2, 3, 1}, {2, 2, 3, 1}, {2, 3, 1, 1}, {2, 4, 1, 7}, {3, 3, 1, 5}, {3, 4, 1, 211}} {
		many := 1
		for range c.rows * c.columns {
			many *= 2*c.most + 1
		}
		for n := 0; n < many; n += c.every {
			left := n
			b := sample.Filled(c.rows, c.columns, func(i, j int) int {
				entry := left%(2*c.most+1) - c.most
				left /= 2*c.most + 1
				return entry
			})
			if _, ok := starsOf(b); ok {
				list = append(list, b)
			}
		}
	}
	return list
}

// TestReduceOfMixedBases: of a lattice whose least norm is known, however great the multiples are that lead back to it.
func TestReduceOfMixedBases(t *testing.T) {
	s := sample.NewStream()
	for n := range 300 {
		rows := n%5 + 1
		columns := rows + n/5%(9-rows)
		for _, c := range []struct {
			b     [][]int
			least int
		}{{identity(rows, columns, 1), 1}, {identity(rows, columns, 999), 999 * 999}, {stairs(rows, 8), 2}} {
			b := mixed(s, c.b)
			answer := checkReduce(t, b)
			if x, _ := starsOf(answer); !x.hasAll(c.b) {
				t.Fatalf("Reduce(%v): %v is not the lattice of %v", b, answer, c.b)
			}
			checkFirst(t, answer, c.least)
			checkShort(t, b, c.least)
		}
	}
}

// TestReduceOfLongStairs: rows that reduce each other in many steps, as numbers do whose quotients are ones.
func TestReduceOfLongStairs(t *testing.T) {
	first, second := 1, 1
	for second <= small {
		for columns := 2; columns <= 8; columns += 3 {
			b := identity(2, columns, 1)
			b[0][0], b[0][1], b[1][0], b[1][1] = second, first, first, second-first
			checkFirst(t, checkReduce(t, b), 1)
			checkShort(t, b, 1)
		}
		first, second = second, first+second
	}
}

// TestReduceOfWhatIsReduced: a basis that is reduced already, and each that a step leads to from it.
func TestReduceOfWhatIsReduced(t *testing.T) {
	for i, b := range bases() {
		answer, _ := lattice.Reduce(b)
		if i%3 > 0 || slices.ContainsFunc(answer, func(row []int) bool { return slices.Max(row) > small || slices.Min(row) < -small }) {
			continue
		}
		again := checkReduce(t, answer)
		_, least, _ := lattice.Short(b)
		checkFirst(t, again, least)
		slices.Reverse(answer)
		checkReduce(t, answer)
	}
}
