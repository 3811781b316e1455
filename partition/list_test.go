package partition_test

import (
	"fmt"
	"slices"
	"testing"

	"arithmetica/api"
	"arithmetica/partition"
)

// cut answers what is left of a row of n ones that is cut behind each place whose bit is set.
func cut(n, places int) []int {
	var l []int
	length := 0
	for i := range n {
		length++
		if i == n-1 || places>>i&1 == 1 {
			l = append(l, length)
			length = 0
		}
	}
	return l
}

// standsFirst tells whether p is greater than q where they differ first.
func standsFirst(p, q []int) bool {
	for i := range min(len(p), len(q)) {
		if p[i] != q[i] {
			return p[i] > q[i]
		}
	}
	return false
}

// triedList tries all ways to cut a row of n ones, and keeps those that do not rise, in the order of List.
func triedList(n int) [][]int {
	var list [][]int
	for places := range 1 << max(n-1, 0) {
		if l := cut(n, places); isPartition(l, n) {
			list = append(list, l)
		}
	}
	slices.SortFunc(list, func(p, q []int) int {
		if standsFirst(p, q) {
			return -1
		}
		return 1
	})
	return list
}

// TestListByTryingAllWays: and without a fault.
func TestListByTryingAllWays(t *testing.T) {
	for n := range 21 {
		list, f := partition.List(n)
		want := triedList(n)
		if f != none || !slices.EqualFunc(list, want, slices.Equal) {
			t.Fatalf("List(%d): %v, %v, want %v", n, list, f, want)
		}
	}
}

// TestListKeepsItsPromise: each is a partition of n, each stands ahead of the next, so that none comes twice, and there are as many as there are partitions.
func TestListKeepsItsPromise(t *testing.T) {
	want := countedByEntries(25, func(int) bool { return true })
	for n := range 26 {
		list, f := partition.List(n)
		if f != none || len(list) != int(want[n].Int64()) {
			t.Fatalf("List(%d) has %d, %v, want %v", n, len(list), f, want[n])
		}
		for i, l := range list {
			if !isPartition(l, n) || partition.Check(l) != none {
				t.Fatalf("List(%d): %v is none", n, l)
			}
			if i > 0 && !standsFirst(list[i-1], l) {
				t.Fatalf("List(%d): %v stands behind %v", n, l, list[i-1])
			}
		}
	}
}

func TestListOfChosenNumbers(t *testing.T) {
	for n, want := range map[int]string{
		0: "[[]]",
		1: "[[1]]",
		2: "[[2] [1 1]]",
		4: "[[4] [3 1] [2 2] [2 1 1] [1 1 1 1]]",
		6: "[[6] [5 1] [4 2] [4 1 1] [3 3] [3 2 1] [3 1 1 1] [2 2 2] [2 2 1 1] [2 1 1 1 1] [1 1 1 1 1 1]]",
	} {
		if list, f := partition.List(n); fmt.Sprint(list) != want || f != none {
			t.Errorf("List(%d): %v, %v, want %s", n, list, f, want)
		}
	}
	list, f := partition.List(25)
	if len(list) != 1958 || f != none || !slices.Equal(list[0], []int{25}) || !slices.Equal(list[1957], slices.Repeat([]int{1}, 25)) {
		t.Errorf("List(25): %d, %v", len(list), f)
	}
	if list, f := partition.List(26); len(list) != 0 || f != faultOf(api.ErrRange, 0) {
		t.Errorf("List(26): %v, %v", list, f)
	}
}

func TestListTellsItsFault(t *testing.T) {
	outcomes := map[api.Fault]int{}
	for _, n := range wrongs() {
		want := none
		if n < 0 || n > 25 {
			want = faultOf(api.ErrRange, 0)
		}
		list, f := partition.List(n)
		if f != want || (f != none) != (len(list) == 0) {
			t.Errorf("List(%d): %v, %v, want %v", n, list, f, want)
		}
		outcomes[f]++
	}
	if len(outcomes) != 2 {
		t.Errorf("not each outcome is met: %v", outcomes)
	}
}

// TestEulersTheorem: in List of each number, as many have odd entries alone as have different ones, and Apart and Odd take just these.
func TestEulersTheorem(t *testing.T) {
	for n := range 26 {
		list, _ := partition.List(n)
		odd, different := 0, 0
		for _, l := range list {
			_, f := partition.Apart(l)
			_, g := partition.Odd(l)
			if (f == none) != areOdd(l) || (g == none) != areDifferent(l) {
				t.Fatalf("%v: Apart tells %v, Odd tells %v", l, f, g)
			}
			if f == none {
				odd++
			}
			if g == none {
				different++
			}
		}
		if odd != different || odd == 0 {
			t.Errorf("of %d, %d have odd entries, and %d different ones", n, odd, different)
		}
	}
}
