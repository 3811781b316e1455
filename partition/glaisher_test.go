package partition_test

import (
	"fmt"
	"slices"
	"testing"

	"arithmetica/api"
	"arithmetica/partition"
)

// oddByWords halves each entry until it is odd; it stands for that odd number twice as often with each step.
func oddByWords(l []int) []int {
	var answer []int
	for _, entry := range l {
		times := 1
		for entry%2 == 0 {
			entry /= 2
			times *= 2
		}
		for range times {
			answer = append(answer, entry)
		}
	}
	slices.SortFunc(answer, func(p, q int) int { return q - p })
	return answer
}

// checkOdd holds Odd against the chapter's words, for a partition with different entries, and undoes it by Apart.
func checkOdd(t *testing.T, l []int) {
	t.Helper()
	answer, f := partition.Odd(l)
	if f != none || !slices.Equal(answer, oddByWords(l)) || !isPartition(answer, sum(l)) || !areOdd(answer) {
		t.Fatalf("Odd(%v): %v, %v, want %v", l, answer, f, oddByWords(l))
	}
	back, f := partition.Apart(answer)
	if len(answer) > most {
		if len(back) != 0 || f != faultOf(api.ErrMany, 0) {
			t.Fatalf("Apart of Odd of %v, which has %d entries: %v, %v", l, len(answer), back, f)
		}
		return
	}
	if f != none || !slices.Equal(back, l) {
		t.Fatalf("Apart of Odd of %v: %v, %v", l, back, f)
	}
}

// checkApart holds Apart against the chapter's sentence, for a partition of odd entries.
func checkApart(t *testing.T, l []int) {
	t.Helper()
	answer, f := partition.Apart(l)
	if f != none || !isPartition(answer, sum(l)) || !areDifferent(answer) || !slices.Equal(oddByWords(answer), l) {
		t.Fatalf("Apart(%v): %v, %v, of which Odd is %v", l, answer, f, oddByWords(answer))
	}
	if back, f := partition.Odd(answer); f != none || !slices.Equal(back, l) {
		t.Fatalf("Odd of Apart of %v: %v, %v", l, back, f)
	}
}

func TestOddOfSmallNumbers(t *testing.T) {
	for n := range 56 {
		eachDifferent(n, func(l []int) { checkOdd(t, l) })
	}
}

func TestApartOfSmallNumbers(t *testing.T) {
	for n := range 56 {
		eachOdd(n, func(l []int) { checkApart(t, l) })
	}
}

// TestOddHasEachOddPartitionOnce: what Apart answers is the only one.
func TestOddHasEachOddPartitionOnce(t *testing.T) {
	for n := range 41 {
		seen := map[string]int{}
		eachDifferent(n, func(l []int) {
			answer, _ := partition.Odd(l)
			seen[fmt.Sprint(answer)]++
		})
		eachOdd(n, func(l []int) {
			if seen[fmt.Sprint(l)] != 1 {
				t.Fatalf("%v is Odd of %d partitions with different entries", l, seen[fmt.Sprint(l)])
			}
			delete(seen, fmt.Sprint(l))
		})
		if len(seen) != 0 {
			t.Errorf("Odd has others: %v", seen)
		}
	}
}

// TestOddOfOneEntry: of each one.
func TestOddOfOneEntry(t *testing.T) {
	for n := 1; n <= tiny; n++ {
		checkOdd(t, []int{n})
	}
}

// TestApartOfOneNumber: each odd number, each so many times, with 1 behind it as often as there is room.
func TestApartOfOneNumber(t *testing.T) {
	for n := 1; n <= tiny; n += 2 {
		for many := 1; many <= most && n*many <= tiny; many++ {
			l := slices.Repeat([]int{n}, many)
			checkApart(t, l)
			checkApart(t, append(l, slices.Repeat([]int{1}, min(most-many, tiny-n*many))...))
		}
	}
}

// TestOddAndApartOfGreatNumbers: at the edges, too, where what Odd answers may have more than MaxList entries.
func TestOddAndApartOfGreatNumbers(t *testing.T) {
	for _, l := range slices.Concat(edges(), drawnDifferent(3000)) {
		if areDifferent(l) {
			checkOdd(t, l)
		}
	}
	for _, l := range slices.Concat(edges(), drawnOdd(3000)) {
		if areOdd(l) {
			checkApart(t, l)
		}
	}
}

func TestOddAndApartOfChosenLists(t *testing.T) {
	times := func(n, many int) []int { return slices.Repeat([]int{n}, many) }
	for _, c := range []struct{ different, odd []int }{
		{nil, nil},
		{[]int{}, nil},
		{[]int{1}, []int{1}},
		{[]int{2}, []int{1, 1}},
		{[]int{6, 1}, []int{3, 3, 1}},
		{[]int{2, 1}, []int{1, 1, 1}},
		{[]int{6, 3, 2}, []int{3, 3, 3, 1, 1}},
		{[]int{3, 2, 1}, []int{3, 1, 1, 1}},
		{[]int{12, 10, 7, 1}, []int{7, 5, 5, 3, 3, 3, 3, 1}},
		{[]int{7, 5, 3, 1}, []int{7, 5, 3, 1}},
		{[]int{tiny}, times(125, 16)},
		{[]int{tiny - 1}, []int{tiny - 1}},
		{[]int{tiny - 1, 1}, []int{tiny - 1, 1}},
		{[]int{1001, 999}, []int{1001, 999}},
		{[]int{512, 256, 128, 64, 32, 8}, times(1, most)},
		{[]int{1000, 512, 256, 128, 64, 32}, append(times(125, 8), times(1, most-8)...)},
	} {
		if answer, f := partition.Odd(c.different); f != none || !slices.Equal(answer, c.odd) {
			t.Errorf("Odd(%v): %v, %v, want %v", c.different, answer, f, c.odd)
		}
		if answer, f := partition.Apart(c.odd); f != none || !slices.Equal(answer, c.different) {
			t.Errorf("Apart(%v): %v, %v, want %v", c.odd, answer, f, c.different)
		}
	}
}

// TestOddWithMoreThanMaxListEntries: the chapter bounds only what is handed in.
func TestOddWithMoreThanMaxListEntries(t *testing.T) {
	for _, l := range [][]int{{1024}, {1024, 512, 256, 128, 64, 16}, {512, 256, 128, 64, 32, 8, 1}, {1000, 512, 256, 128, 64, 32, 1}, {1024, 976}} {
		checkOdd(t, l)
		answer, f := partition.Odd(l)
		if len(answer) <= most || f != none {
			t.Errorf("Odd(%v): %v, %v", l, answer, f)
		}
		if back, f := partition.Apart(answer); len(back) != 0 || f != faultOf(api.ErrMany, 0) {
			t.Errorf("Apart of Odd of %v: %v, %v", l, back, f)
		}
	}
}
