package frac_test

import (
	"cmp"
	"slices"
	"testing"

	"arithmetica/api"
	"arithmetica/frac"
)

const mostRow = 50

// allUpTo are all fractions from 0 to 1 whose Down is at most n, rising.
func allUpTo(n int) []api.Frac {
	var list []api.Frac
	for _, x := range right(0, n, n) {
		if x.Up <= x.Down {
			list = append(list, x)
		}
	}
	slices.SortFunc(list, func(x, y api.Frac) int { return cmp.Compare(x.Up*y.Down, y.Up*x.Down) })
	return list
}

func TestRowIsAllFractions(t *testing.T) {
	for n := 1; n <= mostRow; n++ {
		row, f := frac.Row(n)
		if want := allUpTo(n); !slices.Equal(row, want) || f != none {
			t.Errorf("Row(%d): %v, %v, want %v", n, row, f, want)
		}
	}
}

// TestNeighboursOfARow: Farey's and Cauchy's theorem.
func TestNeighboursOfARow(t *testing.T) {
	for n := 1; n <= mostRow; n++ {
		row, _ := frac.Row(n)
		if len(row) < 2 {
			t.Fatalf("Row(%d) has no neighbours: %v", n, row)
		}
		for i, y := range row[1:] {
			if x := row[i]; x.Down*y.Up-x.Up*y.Down != 1 {
				t.Errorf("Row(%d) has %v and %v next to each other", n, x, y)
			}
		}
	}
}

func TestRowOfChosenNumbers(t *testing.T) {
	for n, want := range map[int][]api.Frac{
		1: {{Up: 0, Down: 1}, {Up: 1, Down: 1}},
		2: {{Up: 0, Down: 1}, {Up: 1, Down: 2}, {Up: 1, Down: 1}},
		5: {{Up: 0, Down: 1}, {Up: 1, Down: 5}, {Up: 1, Down: 4}, {Up: 1, Down: 3}, {Up: 2, Down: 5}, {Up: 1, Down: 2}, {Up: 3, Down: 5}, {Up: 2, Down: 3}, {Up: 3, Down: 4}, {Up: 4, Down: 5}, {Up: 1, Down: 1}},
	} {
		if row, f := frac.Row(n); !slices.Equal(row, want) || f != none {
			t.Errorf("Row(%d): %v, %v, want %v", n, row, f, want)
		}
	}
	if row, f := frac.Row(50); len(row) != 775 || f != none {
		t.Errorf("Row(50) has %d fractions, %v, want 775", len(row), f)
	}
}

func TestRowTellsItsFault(t *testing.T) {
	outcomes := map[api.Fault]int{}
	for _, n := range edges() {
		want := none
		if n < 1 || n > mostRow {
			want = faultOf(api.ErrRange, 0)
		}
		row, f := frac.Row(n)
		if f != want || (f == none) != (len(row) > 0) {
			t.Errorf("Row(%d): %v, %v, want %v", n, row, f, want)
		}
		outcomes[f]++
	}
	checkOutcomes(t, outcomes, none, faultOf(api.ErrRange, 0))
}

// TestRowIsNewMemory: what is written over it, behind its length, too, is to be seen in no other answer.
func TestRowIsNewMemory(t *testing.T) {
	for n := 1; n <= mostRow; n++ {
		first, _ := frac.Row(n)
		second, _ := frac.Row(n)
		clear(first[:cap(first)])
		third, _ := frac.Row(n)
		if want := allUpTo(n); !slices.Equal(second, want) || !slices.Equal(third, want) {
			t.Errorf("Row(%d) shares memory: %v, %v", n, second, third)
		}
	}
}
