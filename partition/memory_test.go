package partition_test

import (
	"fmt"
	"slices"
	"testing"

	"arithmetica/partition"
	"arithmetica/sample"
)

// tried are lists of all sorts: partitions with different entries, with odd ones, with both and neither, and what is none.
func tried() [][]int {
	return slices.Concat(edges(), drawn(300), drawnDifferent(300), drawnOdd(300), spoiltLists(), [][]int{{7, 5, 3, 1}, {2, 1}, {3, 2, 1}, {1, 1, 1}, {4, 2, 1, 1}})
}

// TestWhatIsHandedInStaysAsItIs: behind its length, too, where nothing is read either.
func TestWhatIsHandedInStaysAsItIs(t *testing.T) {
	for _, c := range calls() {
		for _, l := range tried() {
			want, wantFault := c.do(slices.Clip(slices.Clone(l)))
			guarded := sample.GuardedRow(l)
			before := slices.Clone(guarded[:cap(guarded)])
			answer, f := c.do(guarded)
			if f != wantFault || !slices.Equal(answer, want) {
				t.Fatalf("%s(%v): %v, %v, and with other numbers behind it %v, %v", c.name, l, want, wantFault, answer, f)
			}
			if !slices.Equal(guarded[:cap(guarded)], before) {
				t.Fatalf("%s: what was %v is now %v", c.name, before, guarded[:cap(guarded)])
			}
		}
	}
}

// overwrite writes over all of a list's memory, behind its length, too.
func overwrite(l []int) {
	for i := range l[:cap(l)] {
		l[:cap(l)][i] = 12345678
	}
}

// TestWhatIsAnsweredIsNewMemory: what is written over it is not to be seen in what was handed in, nor in the next answer.
func TestWhatIsAnsweredIsNewMemory(t *testing.T) {
	for _, c := range calls() {
		for _, l := range tried() {
			handed := sample.GuardedRow(l)
			before := slices.Clone(handed[:cap(handed)])
			answer, f := c.do(handed)
			want := slices.Clone(answer)
			overwrite(answer)
			if !slices.Equal(handed[:cap(handed)], before) {
				t.Fatalf("%s(%v) answers what was handed in", c.name, l)
			}
			if again, g := c.do(handed); g != f || !slices.Equal(again, want) {
				t.Fatalf("%s(%v): %v, %v, and ahead of that %v, %v", c.name, l, again, g, want, f)
			}
		}
	}
}

// TestNoTwoListsShareMemory: each of what List answers may be written over, behind its length, too, and the others stay as they are; and the next call answers the same again.
func TestNoTwoListsShareMemory(t *testing.T) {
	for _, n := range []int{0, 1, 2, 5, 12, 25} {
		list, _ := partition.List(n)
		whole := fmt.Sprint(list)
		var rows [][]int
		for _, l := range list {
			rows = append(rows, slices.Clone(l))
		}
		for i, l := range list {
			overwrite(l)
			if !slices.EqualFunc(list[i+1:], rows[i+1:], slices.Equal) {
				t.Fatalf("List(%d): %v shares memory with a later one", n, rows[i])
			}
		}
		clear(list[:cap(list)])
		if again, f := partition.List(n); fmt.Sprint(again) != whole || f != none {
			t.Errorf("List(%d): %v, %v, and ahead of that %s", n, again, f, whole)
		}
	}
}

// TestNoOtherCallChangesAnAnswer: what one call has answered stays as it is while others are made.
func TestNoOtherCallChangesAnAnswer(t *testing.T) {
	list, _ := partition.List(12)
	before := fmt.Sprint(list)
	for _, l := range list {
		for _, c := range calls() {
			c.do(l)
		}
	}
	if other, _ := partition.List(13); len(other) != 101 || fmt.Sprint(list) != before {
		t.Errorf("List(12) was %s, and is now %v", before, list)
	}
}
