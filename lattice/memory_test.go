package lattice_test

import (
	"fmt"
	"slices"
	"testing"

	"arithmetica/lattice"
	"arithmetica/sample"
)

// told tells all that the calls answer of b.
func told(b [][]int) string {
	answer, f := lattice.Reduce(b)
	is, _ := lattice.Reduced(b)
	v, least, _ := lattice.Short(b)
	return fmt.Sprint(lattice.Check(b), answer, f, is, v, least)
}

// TestWhatIsHandedInStaysAsItIs: behind the lengths, too.
func TestWhatIsHandedInStaysAsItIs(t *testing.T) {
	for _, b := range slices.Concat(bases(), sample.Spoilt(5), dependent(sample.NewStream())) {
		if len(b) > 20 {
			continue
		}
		b := sample.Guarded(b)
		before := fmt.Sprint(sample.Memory(b))
		told(b)
		if after := fmt.Sprint(sample.Memory(b)); after != before {
			t.Fatalf("what was %s is now %s", before, after)
		}
	}
}

// TestWhatLiesBehindALengthIsNotRead: the same rows with other numbers there have the same answers.
func TestWhatLiesBehindALengthIsNotRead(t *testing.T) {
	for _, b := range bases() {
		var plain [][]int
		for _, row := range b {
			plain = append(plain, slices.Clip(slices.Clone(row)))
		}
		if told(sample.Guarded(b)) != told(slices.Clip(plain)) {
			t.Fatalf("the answers differ for %v", b)
		}
	}
}

// overwrite writes over all of a row's memory, and over what was behind it.
func overwrite(row []int) {
	for i := range row[:cap(row)] {
		row[:cap(row)][i] = 12345678
	}
}

// TestNoTwoListsShareMemory: each row that is answered may be written over, behind its length too, and the others stay as they are, as do those that were handed in; and the next call answers the same again.
func TestNoTwoListsShareMemory(t *testing.T) {
	for _, b := range bases() {
		before, want := fmt.Sprint(b), told(b)
		rows, _ := lattice.Reduce(b)
		for i, row := range rows {
			others := fmt.Sprint(rows[i+1:])
			overwrite(row)
			if fmt.Sprint(rows[i+1:]) != others {
				t.Fatalf("row %d of what Reduce answers of %s shares memory with a later one", i, before)
			}
		}
		clear(rows[:cap(rows)])
		v, _, _ := lattice.Short(b)
		overwrite(v)
		if fmt.Sprint(b) != before || told(b) != want {
			t.Fatalf("what was handed in, or is answered of it, is no more the same: %v, before %s", b, before)
		}
	}
}

// TestReduceAnswersItsRowsAlone: no row is handed in again, where it is reduced already.
func TestReduceAnswersItsRowsAlone(t *testing.T) {
	b := [][]int{{1, 0, 0}, {0, 1, 0}, {0, 0, 1}}
	rows, _ := lattice.Reduce(b)
	overwrite(b[0])
	b[1] = nil
	x, ok := starsOf(rows)
	if !ok || !x.has([]int{1, 0, 0}) || !x.has([]int{0, 1, 0}) {
		t.Errorf("%v has changed with what was handed in", rows)
	}
}
