package partition_test

import (
	"slices"
	"testing"

	"arithmetica/api"
	"arithmetica/partition"
)

// turnedByWords counts, for each k from 1 on, how many entries are at least k, until none is.
func turnedByWords(l []int) []int {
	var answer []int
	for k := 1; ; k++ {
		many := 0
		for _, entry := range l {
			if entry >= k {
				many++
			}
		}
		if many == 0 {
			return answer
		}
		answer = append(answer, many)
	}
}

// checkTurned holds Turned against the chapter's words, and turns what is answered once more.
func checkTurned(t *testing.T, l []int) {
	t.Helper()
	answer, f := partition.Turned(l)
	if f != none || !slices.Equal(answer, turnedByWords(l)) || !isPartition(answer, sum(l)) {
		t.Fatalf("Turned(%v): %v, %v, want %v", l, answer, f, turnedByWords(l))
	}
	again, f := partition.Turned(answer)
	if len(answer) > most {
		if len(again) != 0 || f != faultOf(api.ErrMany, 0) {
			t.Fatalf("%v turned twice, with %d entries between: %v, %v", l, len(answer), again, f)
		}
		return
	}
	if f != none || !slices.Equal(again, l) {
		t.Fatalf("%v turned twice: %v, %v", l, again, f)
	}
}

func TestTurnedOfSmallNumbers(t *testing.T) {
	for n := range 36 {
		eachPartition(n, func(l []int) { checkTurned(t, l) })
	}
}

// TestTurnedOfGreatNumbers: at the edges, too, where what is answered may have up to MaxTiny entries.
func TestTurnedOfGreatNumbers(t *testing.T) {
	for _, l := range slices.Concat(edges(), drawn(2000), drawnDifferent(500)) {
		checkTurned(t, l)
	}
}

func TestTurnedOfChosenLists(t *testing.T) {
	ones := func(many int) []int { return slices.Repeat([]int{1}, many) }
	for _, c := range []struct{ l, want []int }{
		{nil, nil},
		{[]int{}, nil},
		{[]int{1}, []int{1}},
		{[]int{2}, []int{1, 1}},
		{[]int{1, 1}, []int{2}},
		{[]int{2, 1}, []int{2, 1}},
		{[]int{4, 2, 1}, []int{3, 2, 1, 1}},
		{[]int{5, 5}, []int{2, 2, 2, 2, 2}},
		{[]int{tiny}, ones(tiny)},
		{[]int{most}, ones(most)},
		{ones(most), []int{most}},
		{slices.Repeat([]int{2}, most), []int{most, most}},
		{append([]int{most + 1}, ones(most-1)...), append([]int{most}, ones(most)...)},
	} {
		if answer, f := partition.Turned(c.l); f != none || !slices.Equal(answer, c.want) {
			t.Errorf("Turned(%v): %v, %v, want %v", c.l, answer, f, c.want)
		}
	}
}
