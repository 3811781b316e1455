package equation_test

import (
	"math"
	"slices"
	"testing"

	"arithmetica/api"
	"arithmetica/equation"
	"arithmetica/sample"
)

func checkCoins(t *testing.T, l []int, wantLast, wantMany int, want api.Fault) {
	t.Helper()
	if last, many, f := equation.Coins(l); last != wantLast || many != wantMany || f != want {
		t.Fatalf("Coins(%v): %d, %d, %v, want %d, %d, %v", l, last, many, f, wantLast, wantMany, want)
	}
}

// triedCoins tries all numbers from 0 on, for a list without a fault. When as many numbers one behind the other are sums as the first coin is great, all further ones are.
func triedCoins(l []int) (last, many int, f api.Fault) {
	if gcd(l...) > 1 {
		return 0, 0, faultOf(api.ErrNone, 0)
	}
	last = -1
	isSum := []bool{true}
	for n := 1; n-last <= l[0]; n++ {
		is := slices.ContainsFunc(l, func(coin int) bool { return coin <= n && isSum[n-coin] })
		isSum = append(isSum, is)
		if !is {
			last = n
			many++
		}
	}
	return last, many, none
}

// checkTried holds Coins against trying, and answers whether there is a last number.
func checkTried(t *testing.T, l ...int) bool {
	t.Helper()
	last, many, f := triedCoins(l)
	checkCoins(t, l, last, many, f)
	return f == none
}

// TestCoinsOfAllSmallLists: P16.5 of all lists of one to four small numbers, in each order and with those that come twice.
func TestCoinsOfAllSmallLists(t *testing.T) {
	for a := 1; a <= 60; a++ {
		checkTried(t, a)
		for b := 1; b <= 60; b++ {
			checkTried(t, a, b)
		}
	}
	for a := 1; a <= 16; a++ {
		for b := 1; b <= 16; b++ {
			for c := 1; c <= 16; c++ {
				checkTried(t, a, b, c)
				checkTried(t, a+14, b+14, c+14)
				checkTried(t, 6*a, 10*b, 15*c)
				for d := 1; d <= 16; d += 3 {
					checkTried(t, a, b, c, d)
				}
			}
		}
	}
}

// TestCoinsOfDrawnLists: of all lengths, with entries of all sizes, some of them with a common divisor but for the last entry.
func TestCoinsOfDrawnLists(t *testing.T) {
	s := sample.NewStream()
	outcomes := map[bool]int{}
	for length := 1; length <= 20; length++ {
		for i := range 60 {
			var plain, multiples []int
			most := []int{1000, 300, 100, 30}[i%4]
			g := 2 + s.Below(6)
			for range length {
				plain = append(plain, 1+s.Below(most))
				multiples = append(multiples, g*(1+s.Below(1000/g)))
			}
			outcomes[checkTried(t, plain...)]++
			outcomes[checkTried(t, multiples...)]++
			multiples[length-1] = 1 + s.Below(1000)
			outcomes[checkTried(t, multiples...)]++
		}
	}
	if outcomes[true] < 1000 || outcomes[false] < 1000 {
		t.Errorf("the outcomes are %v", outcomes)
	}
}

// TestCoinsByTryingAtTheBound: lists of coins near 1000.
func TestCoinsByTryingAtTheBound(t *testing.T) {
	for _, l := range [][]int{
		{999, 1000}, {1000, 999}, {1000, 999, 998}, {991, 997, 1000}, {1000, 1000, 999, 999}, {998, 1000, 999}, {500, 1000, 999}, {998, 1000}, {1000}, {1000, 1000},
		{996, 998, 999, 1000}, {990, 995, 1000, 999}, {2, 999}, {999, 2, 1000}, {1000, 750, 333, 666, 999}, {1000, 999, 1}, {600, 1000, 375}, {900, 600, 999, 1000},
	} {
		checkTried(t, l...)
	}
	var all []int
	for n := range 20 {
		all = append(all, 1000-n)
		checkTried(t, all...)
	}
}

// TestCoinsOfTwoIsSylvesters: what follows of two numbers without a common divisor: the last one is a b - a - b, and half of all numbers up to it, from 0 on, are no sums.
func TestCoinsOfTwoIsSylvesters(t *testing.T) {
	check := func(a, b int) {
		t.Helper()
		if gcd(a, b) > 1 {
			checkCoins(t, []int{a, b}, 0, 0, faultOf(api.ErrNone, 0))
			return
		}
		last := a*b - a - b
		checkCoins(t, []int{a, b}, last, (last+1)/2, none)
	}
	for a := 1; a <= 150; a++ {
		for b := 1; b <= 150; b++ {
			check(a, b)
			check(1001-a, b)
			if a <= 50 && b <= 50 {
				check(1001-a, 1001-b)
			}
		}
	}
}

func TestCoinsOfChosenLists(t *testing.T) {
	ones := slices.Repeat([]int{1}, 20)
	for _, c := range []struct {
		l          []int
		last, many int
		want       api.Fault
	}{
		{[]int{6, 9, 20}, 43, 22, none},
		{[]int{20, 9, 6}, 43, 22, none},
		{[]int{6, 20, 9, 6, 9, 20}, 43, 22, none},
		{[]int{1}, -1, 0, none},
		{[]int{1, 1}, -1, 0, none},
		{[]int{1000, 1}, -1, 0, none},
		{[]int{5, 7, 1, 1000}, -1, 0, none},
		{ones, -1, 0, none},
		{[]int{2, 3}, 1, 1, none},
		{[]int{3, 2, 2}, 1, 1, none},
		{[]int{4, 6, 9}, 11, 6, none},
		{[]int{6, 10, 15}, 29, 15, none},
		{[]int{4, 6}, 0, 0, faultOf(5, 0)},
		{[]int{2}, 0, 0, faultOf(5, 0)},
		{[]int{7, 7}, 0, 0, faultOf(5, 0)},
		{[]int{1000}, 0, 0, faultOf(5, 0)},
		{[]int{999, 1000}, 997001, 498501, none},
		{[]int{1000, 999}, 997001, 498501, none},
		{slices.Concat(slices.Repeat([]int{1000}, 19), []int{999}), 997001, 498501, none},
		{slices.Repeat([]int{1000}, 20), 0, 0, faultOf(5, 0)},
	} {
		checkCoins(t, c.l, c.last, c.many, c.want)
	}
}

// wantCoins is which fault P16.5 tells of l.
func wantCoins(l []int) api.Fault {
	if len(l) == 0 || len(l) > 20 {
		return faultOf(api.ErrMany, 0)
	}
	for i, n := range l {
		if n < 1 || n > 1000 {
			return faultOf(api.ErrRange, i)
		}
	}
	if gcd(l...) > 1 {
		return faultOf(api.ErrNone, 0)
	}
	return none
}

// spoiltLists are lists with each fault, and with several at once.
func spoiltLists() [][]int {
	list := [][]int{nil, {}}
	for _, length := range []int{21, 22, 40, 1000, 100000} {
		list = append(list, slices.Repeat([]int{1}, length), slices.Repeat([]int{0}, length), slices.Repeat([]int{2}, length), slices.Repeat([]int{1001}, length))
	}
	for _, n := range append(wrongs(), -1000, -7, 0, 1001, 1002, 10000) {
		list = append(list, []int{n}, []int{2, 4, n}, []int{n, 3, math.MinInt}, []int{3, n, 0, 1001})
		for i := range 20 {
			one := slices.Repeat([]int{2 + i%2}, 20)
			one[i] = n
			several := slices.Clone(one)
			several[19] = 1001
			list = append(list, one, several, append(slices.Clone(one), 5))
		}
	}
	return list
}

// TestCoinsTellsItsFaultsInOrder: and nothing beside a fault.
func TestCoinsTellsItsFaultsInOrder(t *testing.T) {
	outcomes := map[api.Fault]int{}
	for _, l := range spoiltLists() {
		want := wantCoins(l)
		last, many, f := equation.Coins(l)
		if f != want || f != none && (last != 0 || many != 0) {
			t.Fatalf("Coins(%v): %d, %d, %v, want %v", l, last, many, f, want)
		}
		outcomes[f]++
	}
	if len(outcomes) != 20+3 {
		t.Errorf("not each outcome is met: %v", outcomes)
	}
}

// TestCoinsLeavesItsListAsItIs: behind its length, too, where nothing is read either.
func TestCoinsLeavesItsListAsItIs(t *testing.T) {
	lists := append(spoiltLists(), []int{6, 9, 20}, []int{20, 6, 9, 6}, []int{999, 1000}, []int{1}, []int{4, 6})
	for _, l := range lists {
		last, many, f := equation.Coins(slices.Clip(slices.Clone(l)))
		guarded := sample.GuardedRow(l)
		before := slices.Clone(guarded[:cap(guarded)])
		checkCoins(t, guarded, last, many, f)
		if !slices.Equal(guarded[:cap(guarded)], before) {
			t.Fatalf("what was %v is now %v", before, guarded[:cap(guarded)])
		}
	}
}
