package frac_test

import (
	"math"
	"math/big"
	"slices"
	"testing"

	"arithmetica/api"
	"arithmetica/frac"
	"arithmetica/sample"
)

// fibonacci answers Fk, by the chapter's words.
func fibonacci(k int) *big.Int {
	last, next := large(0), large(1)
	for range k {
		last, next = next, new(big.Int).Add(last, next)
	}
	return last
}

// apart are all lists of falling numbers from 2 to most, no two of them next to each other.
func apart(most int) [][]int {
	if most < 2 {
		return [][]int{nil}
	}
	list := apart(most - 1)
	for _, l := range apart(most - 2) {
		list = append(list, append([]int{most}, l...))
	}
	return list
}

// TestZeckIsTheOnlyList: Zeckendorf's theorem, by all lists there are: each number below F22 is the sum of just one.
func TestZeckIsTheOnlyList(t *testing.T) {
	const most = 21
	lists := map[int][]int{}
	for _, l := range apart(most) {
		sum := sumOf(l)
		n := int(sum.Int64())
		if before, ok := lists[n]; ok {
			t.Errorf("%v and %v are %d in sum", before, l, n)
		}
		lists[n] = l
	}
	end := int(fibonacci(most + 1).Int64())
	if len(lists) != end {
		t.Errorf("there are %d lists, want %d", len(lists), end)
	}
	for n := range end {
		want, ok := lists[n]
		if list, f := frac.Zeck(n); !ok || !slices.Equal(list, want) || f != none {
			t.Errorf("Zeck(%d): %v, %v, want %v", n, list, f, want)
		}
	}
}

func sumOf(list []int) *big.Int {
	sum := new(big.Int)
	for _, k := range list {
		sum.Add(sum, fibonacci(k))
	}
	return sum
}

func checkZeck(t *testing.T, n int) {
	t.Helper()
	list, f := frac.Zeck(n)
	if sumOf(list).Cmp(large(n)) != 0 || f != none {
		t.Errorf("Zeck(%d): %v, %v, which is %v in sum", n, list, f, sumOf(list))
	}
	ahead := math.MaxInt
	for _, k := range list {
		if k < 2 || k > ahead-2 {
			t.Errorf("Zeck(%d) has %d behind %d", n, k, ahead)
		}
		ahead = k
	}
}

// TestZeckOfGreatNumbers: numbers of all lengths, and those beside Fibonacci's, of which one less needs each second place.
func TestZeckOfGreatNumbers(t *testing.T) {
	for _, n := range sample.Positive(3000) {
		checkZeck(t, n)
	}
	for k := 2; k <= 87; k++ {
		n := int(fibonacci(k).Int64())
		for _, near := range []int{n - 2, n - 1, n, n + 1, n + 2} {
			if near >= 0 {
				checkZeck(t, near)
			}
		}
	}
	for n := top - 1000; n <= top; n++ {
		checkZeck(t, n)
	}
}

func TestZeckOfChosenNumbers(t *testing.T) {
	for n, want := range map[int][]int{
		0: nil, 1: {2}, 2: {3}, 3: {4}, 4: {4, 2}, 5: {5}, 6: {5, 2}, 7: {5, 3}, 11: {6, 4}, 12: {6, 4, 2}, 100: {11, 6, 4}, 1000: {16, 7},
		679891637638612258: {87}, 679891637638612259: {87, 2}, 420196140727489672: {85, 83, 81, 79, 77, 75, 73, 71, 69, 67, 65, 63, 61, 59, 57, 55, 53, 51, 49, 47, 45, 43, 41, 39, 37, 35, 33, 31, 29, 27, 25, 23, 21, 19, 17, 15, 13, 11, 9, 7, 5, 3},
	} {
		if list, f := frac.Zeck(n); !slices.Equal(list, want) || f != none {
			t.Errorf("Zeck(%d): %v, %v, want %v", n, list, f, want)
		}
	}
	if list, f := frac.Zeck(top); len(list) == 0 || list[0] != 87 || f != none {
		t.Errorf("Zeck of MaxNum: %v, %v", list, f)
	}
}

func TestZeckTellsItsFault(t *testing.T) {
	outcomes := map[api.Fault]int{}
	for _, n := range edges() {
		want := none
		if n < 0 || n > top {
			want = faultOf(api.ErrRange, 0)
		}
		list, f := frac.Zeck(n)
		if f != want || (len(list) > 0) != (f == none && n > 0) {
			t.Errorf("Zeck(%d): %v, %v, want %v", n, list, f, want)
		}
		outcomes[f]++
	}
	checkOutcomes(t, outcomes, none, faultOf(api.ErrRange, 0))
}

func TestZeckIsNewMemory(t *testing.T) {
	for _, n := range []int{1, 4, 100, 420196140727489672, top} {
		first, _ := frac.Zeck(n)
		second, _ := frac.Zeck(n)
		want := slices.Clone(first)
		clear(first[:cap(first)])
		third, _ := frac.Zeck(n)
		if !slices.Equal(second, want) || !slices.Equal(third, want) {
			t.Errorf("Zeck(%d) shares memory: %v, %v, want %v", n, second, third, want)
		}
	}
}
