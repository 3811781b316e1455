package partition_test

import (
	"math"
	"slices"
	"testing"

	"arithmetica/api"
	"arithmetica/partition"
	"arithmetica/sample"
)

// TestCheckOfPartitions: nothing is wrong with them.
func TestCheckOfPartitions(t *testing.T) {
	check := func(l []int) {
		if f := partition.Check(l); f != none {
			t.Fatalf("Check(%v): %v", l, f)
		}
	}
	for n := range 31 {
		eachPartition(n, check)
	}
	for _, l := range slices.Concat(edges(), drawn(500), drawnDifferent(500), drawnOdd(500)) {
		if !isPartition(l, sum(l)) || len(l) > most || sum(l) > tiny {
			t.Fatalf("%v is no partition within the bounds", l)
		}
		check(l)
	}
}

// TestFaultsOfChosenLists: each fault of each call, where it stands alone and where there are several.
func TestFaultsOfChosenLists(t *testing.T) {
	ones, twos := slices.Repeat([]int{1}, most), slices.Repeat([]int{2}, most)
	for _, c := range []struct {
		l                []int
		check, odd, part api.Fault
	}{
		{nil, none, none, none},
		{[]int{}, none, none, none},
		{[]int{1}, none, none, none},
		{[]int{tiny}, none, none, faultOf(api.ErrKind, 0)},
		{[]int{0}, faultOf(3, 0), faultOf(3, 0), faultOf(3, 0)},
		{[]int{-1}, faultOf(3, 0), faultOf(3, 0), faultOf(3, 0)},
		{[]int{tiny + 1}, faultOf(3, 0), faultOf(3, 0), faultOf(3, 0)},
		{[]int{math.MaxInt, math.MaxInt}, faultOf(3, 0), faultOf(3, 0), faultOf(3, 0)},
		{[]int{math.MinInt, math.MinInt}, faultOf(3, 0), faultOf(3, 0), faultOf(3, 0)},
		{[]int{5, 0, 7}, faultOf(3, 1), faultOf(3, 1), faultOf(3, 1)},
		{[]int{5, tiny + 1}, faultOf(3, 1), faultOf(3, 1), faultOf(3, 1)}, // it is above the one ahead, too, and too great in sum
		{[]int{5, 6, 0}, faultOf(6, 1), faultOf(6, 1), faultOf(6, 1)},
		{[]int{1, tiny}, faultOf(6, 1), faultOf(6, 1), faultOf(6, 1)}, // it is too great in sum, too
		{[]int{1, 2}, faultOf(6, 1), faultOf(6, 1), faultOf(6, 1)},
		{[]int{3, 2, 1, 2}, faultOf(6, 3), faultOf(6, 3), faultOf(6, 3)},
		{[]int{3, 3, 1, 2}, faultOf(6, 3), faultOf(6, 3), faultOf(6, 3)}, // Odd's own fault stands ahead of it
		{[]int{1500, 501}, faultOf(9, 1), faultOf(9, 1), faultOf(9, 1)},
		{[]int{1500, 500}, none, none, faultOf(7, 0)},
		{[]int{tiny, 1}, faultOf(9, 1), faultOf(9, 1), faultOf(9, 1)},
		{[]int{1500, 501, 0}, faultOf(9, 1), faultOf(9, 1), faultOf(9, 1)},
		{[]int{1500, 501, 502}, faultOf(9, 1), faultOf(9, 1), faultOf(9, 1)},
		{[]int{667, 667, 667}, faultOf(9, 2), faultOf(9, 2), faultOf(9, 2)},
		{[]int{2, 2}, none, faultOf(7, 1), faultOf(7, 0)},
		{[]int{3, 3}, none, faultOf(7, 1), none},
		{[]int{9, 7, 7, 5, 5}, none, faultOf(7, 2), none},
		{[]int{9, 7, 6, 5, 4}, none, none, faultOf(7, 2)},
		{[]int{9, 7, 6, 6, 4}, none, faultOf(7, 3), faultOf(7, 2)},
		{[]int{7, 5, 4, 1}, none, none, faultOf(7, 2)},
		{ones, none, faultOf(7, 1), none},
		{twos, none, faultOf(7, 1), faultOf(7, 0)},
		{append([]int{3}, twos[1:]...), faultOf(9, most-1), faultOf(9, most-1), faultOf(9, most-1)},
		{slices.Repeat([]int{1}, most+1), faultOf(2, 0), faultOf(2, 0), faultOf(2, 0)},
		{slices.Repeat([]int{0}, most+1), faultOf(2, 0), faultOf(2, 0), faultOf(2, 0)},
		{slices.Repeat([]int{tiny}, most+1), faultOf(2, 0), faultOf(2, 0), faultOf(2, 0)},
		{fallingTo(62), none, none, faultOf(7, 0)},
		{fallingTo(63), faultOf(9, 57), faultOf(9, 57), faultOf(9, 57)}, // 6 + .. + 63 is 2001
	} {
		for i, want := range []api.Fault{c.check, c.check, c.odd, c.part} {
			if answer, f := calls()[i].do(c.l); f != want || f != none && len(answer) != 0 {
				t.Errorf("%s(%v): %v, %v, want %v", calls()[i].name, c.l, answer, f, want)
			}
		}
	}
}

// spoiltLists are lists with each fault, and with several at once, at each place of short lists and at some of long ones.
func spoiltLists() [][]int {
	var list [][]int
	for _, length := range []int{most + 1, most + 2, tiny, tiny + 1, 100000} {
		for _, n := range []int{-1, 0, 1, 2, 3, tiny, tiny + 1, math.MinInt} {
			list = append(list, slices.Repeat([]int{n}, length))
		}
	}
	plain := [][]int{{}, {1}, {2}, {5, 3, 1}, {6, 4, 3}, {9, 9, 7, 7, 5, 3, 3}, {8, 7, 6, 6, 5, 1}, {tiny - 10, 5, 3, 2}, {999, 501, 499, 1}, slices.Repeat([]int{1}, most), slices.Repeat([]int{2}, most), fallingTo(62)}
	for _, l := range plain {
		list = append(list, l)
		for i := 0; i <= len(l); i += 1 + len(l)/8 {
			for _, n := range append(wrongs(), 4, 5, 7, 8, 501) {
				one := slices.Insert(slices.Clone(l), i, n)
				list = append(list, one)
				if i < len(l) {
					instead := slices.Clone(l)
					instead[i] = n
					list = append(list, instead, slices.Insert(slices.Clone(instead), len(instead)-1, 0, 7), slices.Insert(slices.Clone(one), i/2, 3))
				}
			}
		}
	}
	return list
}

// drawnLists are lists of numbers near each fault, in no order or nearly in theirs.
func drawnLists() [][]int {
	s := sample.NewStream()
	var list [][]int
	for i := range 20000 {
		var l []int
		ahead := 1 + s.Below([]int{5, 60, 700, tiny}[i%4])
		for range 1 + s.Below(12) {
			ahead += s.Below(8) - 7 + s.Below(300)/299 - s.Below(200)/199*3000
			l = append(l, ahead)
		}
		list = append(list, l)
	}
	return list
}

// TestFaultsInTheirOrder: all four calls against the chapter's words, and nothing beside a fault.
func TestFaultsInTheirOrder(t *testing.T) {
	lists := slices.Concat(spoiltLists(), drawnLists(), edges())
	for _, c := range calls() {
		outcomes := map[int]int{}
		for _, l := range lists {
			answer, f := c.do(l)
			if f != c.want(l) || f != none && len(answer) != 0 {
				t.Fatalf("%s(%v): %v, %v, want %v", c.name, l, answer, f, c.want(l))
			}
			outcomes[f.Code]++
		}
		kinds := 5
		if c.name == "Odd" || c.name == "Apart" {
			kinds = 6
		}
		if len(outcomes) != kinds {
			t.Errorf("%s does not meet each outcome: %v", c.name, outcomes)
		}
	}
}

// TestFaultsOfAllShortLists: all lists of up to five entries from -1 to 5.
func TestFaultsOfAllShortLists(t *testing.T) {
	lists := [][]int{{}}
	for i := 0; len(lists[i]) < 5; i++ {
		for n := -1; n <= 5; n++ {
			lists = append(lists, append(slices.Clone(lists[i]), n))
		}
	}
	for _, c := range calls() {
		for _, l := range lists {
			if answer, f := c.do(l); f != c.want(l) || f != none && len(answer) != 0 {
				t.Fatalf("%s(%v): %v, %v, want %v", c.name, l, answer, f, c.want(l))
			}
		}
	}
}
