package grid_test

import (
	"fmt"
	"slices"
	"testing"

	"arithmetica/grid"
	"arithmetica/sample"
)

// answers answers all lists of texts that the calls answer of m and b.
func answers(m [][]int, b []int) [][][]string {
	h, hu, _ := grid.Hermite(m)
	d, u, v, _ := grid.Smith(m)
	x, k, _ := grid.Solve(m, b)
	return [][][]string{h, hu, {d}, u, v, {x}, k}
}

// TestWhatIsHandedInStaysAsItIs: behind the lengths, too.
func TestWhatIsHandedInStaysAsItIs(t *testing.T) {
	for _, m := range append(matrices(), sample.Spoilt(8)...) {
		if len(m) > 20 {
			continue
		}
		m := sample.Guarded(m)
		b := sample.GuardedRow(make([]int, len(m)))
		for i, row := range m {
			if len(row) > 0 {
				b[i] = row[0] % small
			}
		}
		before, ofB := fmt.Sprint(sample.Memory(m)), fmt.Sprint(sample.Memory([][]int{b}))
		grid.Check(m)
		grid.Det(m)
		answers(m, b)
		if fmt.Sprint(sample.Memory(m)) != before || fmt.Sprint(sample.Memory([][]int{b})) != ofB {
			t.Fatalf("what was %s is now %v, and b, which was %s, is %v", before, sample.Memory(m), ofB, sample.Memory([][]int{b}))
		}
	}
}

// TestWhatLiesBehindALengthIsNotRead: the same lists with other numbers there have the same answers.
func TestWhatLiesBehindALengthIsNotRead(t *testing.T) {
	for _, m := range matrices() {
		b := turned(m)[0]
		plain := make([][]int, len(m))
		for i, row := range m {
			plain[i] = slices.Clip(slices.Clone(row))
		}
		if fmt.Sprint(answers(sample.Guarded(m), sample.GuardedRow(b))) != fmt.Sprint(answers(plain, slices.Clip(slices.Clone(b)))) {
			t.Fatalf("the answers differ for %v", m)
		}
	}
}

// TestNoTwoListsOfAnAnswerShareMemory: each may be written over, behind its length too, and the others stay as they are.
func TestNoTwoListsOfAnAnswerShareMemory(t *testing.T) {
	for _, m := range append(matrices()[:14], sample.Ones(8, 8), hadamard(), sample.Ones(3, 8), sample.Ones(8, 3), [][]int{{0, 0, 0, 0, 0}}, [][]int{{1, 0, 0}, {0, 1, 0}, {0, 0, 1}}) {
		b := turned(m)[0]
		want := answers(m, b)
		got := answers(m, b)
		for i, list := range got {
			for j, row := range list {
				clobber(row)
				if fmt.Sprint(list[j+1:], got[i+1:]) != fmt.Sprint(want[i][j+1:], want[i+1:]) {
					t.Fatalf("list %d of %v shares memory with a later one", j, m)
				}
			}
		}
		// The rows themselves: no list of rows lies behind another one.
		got = answers(m, b)
		for i, list := range got {
			clear(list[:cap(list)])
			if fmt.Sprint(got[i+1:]) != fmt.Sprint(want[i+1:]) {
				t.Fatalf("the rows of list %d of %v share memory with later ones", i, m)
			}
		}
		if fmt.Sprint(answers(m, b)) != fmt.Sprint(want) {
			t.Fatalf("the answers of %v are not the same again", m)
		}
	}
}

// clobber writes over all of a list's memory, and over what was behind it.
func clobber(row []string) {
	for i := range row[:cap(row)] {
		row[:cap(row)][i] = "?"
	}
}
