package partition_test

import (
	"math"
	"slices"

	"arithmetica/api"
	"arithmetica/partition"
	"arithmetica/sample"
)

const (
	tiny = api.MaxTiny
	most = api.MaxList
)

var none api.Fault

func faultOf(code, at int) api.Fault { return api.Fault{Code: code, At: at} }

func sum(l []int) int {
	answer := 0
	for _, n := range l {
		answer += n
	}
	return answer
}

// isPartition tells whether l's numbers are above 0, do not rise, and are n in sum.
func isPartition(l []int, n int) bool {
	for i, entry := range l {
		if entry < 1 || i > 0 && entry > l[i-1] {
			return false
		}
	}
	return sum(l) == n
}

func areDifferent(l []int) bool { return len(slices.Compact(slices.Clone(l))) == len(l) }

func areOdd(l []int) bool {
	return !slices.ContainsFunc(l, func(n int) bool { return n%2 == 0 })
}

// walk hands over all partitions of n, behind ahead, whose entries fit, are at most greatest, and fall by at least drop.
func walk(ahead []int, n, greatest, drop int, fits func(int) bool, do func(l []int)) {
	if n == 0 {
		do(slices.Clone(ahead))
	}
	for entry := 1; entry <= min(n, greatest); entry++ {
		if fits(entry) {
			walk(append(ahead, entry), n-entry, entry-drop, drop, fits, do)
		}
	}
}

func eachPartition(n int, do func(l []int)) {
	walk(nil, n, n, 0, func(int) bool { return true }, do)
}

func eachDifferent(n int, do func(l []int)) {
	walk(nil, n, n, 1, func(int) bool { return true }, do)
}

func eachOdd(n int, do func(l []int)) {
	walk(nil, n, n, 0, func(entry int) bool { return entry%2 == 1 }, do)
}

// ordered brings drawn numbers in the order of a partition, and leaves out the greatest ones until it is one.
func ordered(l []int) []int {
	slices.Sort(l)
	slices.Reverse(l)
	for len(l) > most || sum(l) > tiny {
		l = l[1:]
	}
	return l
}

// drawn are partitions of all lengths and sums; from each a greater number is left out if its sum is too great.
func drawn(many int) [][]int {
	s := sample.NewStream()
	var list [][]int
	for i := range many {
		var l []int
		greatest := []int{2000, 600, 200, 60, 12, 3, 2, 1}[i%8]
		for range 1 + s.Below(min(most, 2*tiny/greatest)) {
			l = append(l, 1+s.Below(greatest))
		}
		list = append(list, ordered(l))
	}
	return list
}

// drawnDifferent are partitions with different entries.
func drawnDifferent(many int) [][]int {
	var list [][]int
	for _, l := range drawn(many) {
		list = append(list, slices.Compact(l))
	}
	return list
}

// drawnOdd are partitions of odd entries.
func drawnOdd(many int) [][]int {
	var list [][]int
	for _, l := range drawn(many) {
		for i := range l {
			l[i] -= 1 - l[i]%2
		}
		list = append(list, l)
	}
	return list
}

// fallingTo are all numbers from n down to 1.
func fallingTo(n int) []int {
	var l []int
	for ; n > 0; n-- {
		l = append(l, n)
	}
	return l
}

// edges are partitions at the bounds: without entries, with one, with MaxList of them, and with sums of MaxTiny.
func edges() [][]int {
	list := [][]int{nil, {}, {1}, {2}, {tiny - 1}, {tiny}, {tiny - 1, 1}, {tiny / 2, tiny / 2}, {1999}, {1001, 999}, {1024}, {1024, 512, 256, 128, 64, 16}, fallingTo(62), append([]int{109}, fallingTo(61)...)}
	for _, entry := range []int{1, 2, 3, 4, 5, 7, 8, 16, 499, 500, 999, 1000} {
		for _, length := range []int{2, 3, 61, 62, 63, 499, 500, 666, most - 1, most} {
			if entry*length <= tiny {
				list = append(list, slices.Repeat([]int{entry}, length))
				list = append(list, append([]int{tiny - entry*(length-1)}, slices.Repeat([]int{entry}, length-1)...))
			}
		}
	}
	return list
}

// wrongs are the edges of an int, and numbers beyond the bounds of this layer and beside them.
func wrongs() []int {
	const low = 1 << 32
	return slices.Concat(sample.Edges(), sample.Beyond(), []int{
		-tiny - 1, -tiny, -26, -25, -5, 24, 25, 26, 27, 100, most - 1, most, most + 1, tiny - 1, tiny, tiny + 1, tiny + 2,
		low + 1, low + 5, low + 25, low + tiny, -low + 4, 1 << 62, -1 << 62, math.MaxInt - tiny, math.MinInt + 2,
	})
}

type call struct {
	name string
	do   func(l []int) ([]int, api.Fault)
	want func(l []int) api.Fault // which fault the chapter tells
}

// calls are those that take a list; Check, which answers none, too.
func calls() []call {
	check := func(l []int) ([]int, api.Fault) { return nil, partition.Check(l) }
	return []call{{"Check", check, wantCheck}, {"Turned", partition.Turned, wantCheck}, {"Odd", partition.Odd, wantOdd}, {"Apart", partition.Apart, wantApart}}
}

// wantCheck is which fault P17.1 tells of l.
func wantCheck(l []int) api.Fault {
	if len(l) > most {
		return faultOf(api.ErrMany, 0)
	}
	for i, entry := range l {
		switch {
		case entry < 1, entry > tiny:
			return faultOf(api.ErrRange, i)
		case i > 0 && l[i-1] < entry:
			return faultOf(api.ErrForm, i)
		case sum(l[:i+1]) > tiny:
			return faultOf(api.ErrMuch, i)
		}
	}
	return none
}

// wantOdd is which fault P17.3 tells of l.
func wantOdd(l []int) api.Fault {
	f := wantCheck(l)
	for i := 1; i < len(l) && f == none; i++ {
		if l[i] == l[i-1] {
			f = faultOf(api.ErrKind, i)
		}
	}
	return f
}

// wantApart is which fault P17.4 tells of l.
func wantApart(l []int) api.Fault {
	f := wantCheck(l)
	if i := slices.IndexFunc(l, func(n int) bool { return n%2 == 0 }); f == none && i >= 0 {
		f = faultOf(api.ErrKind, i)
	}
	return f
}
