package cont_test

import (
	"math"
	"math/big"
	"slices"
	"testing"

	"arithmetica/api"
	"arithmetica/cont"
	"arithmetica/sample"
)

// wrongList tells what Fold must say of a list, by long numbers.
func wrongList(l []int) api.Fault {
	if len(l) > 1000 {
		return faultOf(api.ErrMany, 0)
	}
	if len(l) == 0 {
		return faultOf(api.ErrNone, 0)
	}
	for at, entry := range l {
		if entry < -top || entry > top || at > 0 && entry <= 0 {
			return faultOf(api.ErrRange, at)
		}
	}
	if x := comesTo(l); !isNumber(x.Num()) || !isNumber(x.Denom()) {
		return faultOf(api.ErrMuch, 0)
	}
	return none
}

// checkFold holds Fold against the chapter's sentence, and answers what it must say.
func checkFold(t *testing.T, l []int) api.Fault {
	t.Helper()
	want := wrongList(l)
	x, f := cont.Fold(l)
	if f != want {
		t.Fatalf("Fold(%v): %v, %v, want %v", l, x, f, want)
	}
	if want != none {
		if x != frac(0, 0) {
			t.Fatalf("Fold(%v): %v beside %v", l, x, f)
		}
		return want
	}
	if come := comesTo(l); large(x.Up).Cmp(come.Num()) != 0 || large(x.Down).Cmp(come.Denom()) != 0 {
		t.Fatalf("Fold(%v): %v, want %v", l, x, come)
	}
	return want
}

// eachList hands over all lists of so many entries of from.
func eachList(from []int, many int, do func(l []int)) {
	l := make([]int, many)
	var fill func(place int)
	fill = func(place int) {
		if place == many {
			do(l)
			return
		}
		for _, entry := range from {
			l[place] = entry
			fill(place + 1)
		}
	}
	fill(0)
}

// TestFoldOfShortLists: all of up to five small entries, the wrong ones too.
func TestFoldOfShortLists(t *testing.T) {
	for many := range 6 {
		eachList([]int{-3, -1, 0, 1, 2, 5}, many, func(l []int) { checkFold(t, l) })
	}
}

// TestFoldOfWildLists: P1. All edges stand in each place.
func TestFoldOfWildLists(t *testing.T) {
	for many := range 4 {
		eachList(sample.Edges(), many, func(l []int) { checkFold(t, l) })
	}
}

// TestFoldOfAllLengths: lists of entries of all lengths, of which many come to what is too much.
func TestFoldOfAllLengths(t *testing.T) {
	kinds := map[api.Fault]int{}
	list := sample.Spread(6000)
	for many := 1; many <= 12; many++ {
		for l := range slices.Chunk(list, many) {
			entries := slices.Clone(l)
			for i := 1; i < len(entries); i++ {
				entries[i] = max(entries[i], -entries[i], 1) >> (4 * many)
				entries[i] = max(entries[i], 1)
			}
			kinds[checkFold(t, entries)]++
		}
	}
	for _, kind := range []api.Fault{none, faultOf(api.ErrMuch, 0)} {
		if kinds[kind] < 1000 {
			t.Errorf("%v is only told %d times", kind, kinds[kind])
		}
	}
}

// TestFoldNextToTheBound: fractions whose Up or Down is just MaxNum, or just beyond it.
func TestFoldNextToTheBound(t *testing.T) {
	kinds := map[api.Fault]int{}
	for _, edge := range []int{top - 1, top, top + 1, top + 2} {
		for _, n := range append(sample.Numbers(300), top+1, -top-1) {
			if n == 0 {
				continue
			}
			for _, x := range []*big.Rat{big.NewRat(int64(n), int64(edge)), big.NewRat(int64(edge), int64(n))} {
				l := ints(euclid(x.Num(), x.Denom(), 1000))
				kinds[checkFold(t, l)]++
				// The other list that comes to the same ends with 1.
				if last := len(l) - 1; l[last] > 1 {
					checkFold(t, append(slices.Clone(l[:last]), l[last]-1, 1))
				}
			}
		}
	}
	for _, kind := range []api.Fault{none, faultOf(api.ErrMuch, 0)} {
		if kinds[kind] < 500 {
			t.Errorf("%v is only told %d times", kind, kinds[kind])
		}
	}
}

func TestFoldOfChosenLists(t *testing.T) {
	for _, c := range []struct {
		l    []int
		want api.Frac
	}{
		{[]int{-3, 1, 2}, frac(-7, 3)},
		{[]int{3, 7, 16}, frac(355, 113)},
		{[]int{3, 7, 15, 1}, frac(355, 113)},
		{[]int{0}, frac(0, 1)},
		{[]int{-5}, frac(-5, 1)},
		{[]int{0, 1}, frac(1, 1)},
		{[]int{-1, 1}, frac(0, 1)},
		{[]int{2, 1}, frac(3, 1)},
		{[]int{1, 1, 1, 1, 1}, frac(8, 5)},
		{[]int{top}, frac(top, 1)},
		{[]int{-top}, frac(-top, 1)},
		{[]int{top - 1, 1}, frac(top, 1)},
		{[]int{-top, 1}, frac(1-top, 1)},
		{[]int{0, top}, frac(1, top)},
		{[]int{-1, top}, frac(1-top, top)},
		{[]int{-1, 1, top - 1}, frac(-1, top)},
		{[]int{0, 1, top - 1}, frac(top-1, top)},
		{[]int{1, top - 1}, frac(top, top-1)},
		{[]int{-2, 1, top - 2}, frac(-top, top-1)},
		{[]int{-2, 500000000000000000}, frac(1-top, 500000000000000000)},
		{[]int{499999999999999999, 2}, frac(top-1, 2)},
		{[]int{-500000000000000000, 2}, frac(1-top, 2)},
		{[]int{-333333333333333334, 1, 2}, frac(-top, 3)},
	} {
		if x, f := cont.Fold(c.l); x != c.want || f != none {
			t.Errorf("Fold(%v): %v, %v, want %v", c.l, x, f, c.want)
		}
	}
}

// listOf answers a list of so many entries, all of them the same.
func listOf(many, entry int) []int { return slices.Repeat([]int{entry}, many) }

func TestWrongLists(t *testing.T) {
	much, many := faultOf(api.ErrMuch, 0), faultOf(api.ErrMany, 0)
	for _, c := range []struct {
		l    []int
		want api.Fault
	}{
		{nil, faultOf(api.ErrNone, 0)},
		{[]int{}, faultOf(api.ErrNone, 0)},
		{[]int{top + 1}, faultOf(api.ErrRange, 0)},
		{[]int{-top - 1}, faultOf(api.ErrRange, 0)},
		{[]int{math.MinInt, 0}, faultOf(api.ErrRange, 0)},
		{[]int{-top - 1, 1}, faultOf(api.ErrRange, 0)},
		{[]int{0, top + 1}, faultOf(api.ErrRange, 1)},
		{[]int{1, 0}, faultOf(api.ErrRange, 1)},
		{[]int{1, -1}, faultOf(api.ErrRange, 1)},
		{[]int{1, 1, 0}, faultOf(api.ErrRange, 2)},
		{[]int{1, 1, -top - 1, 0}, faultOf(api.ErrRange, 2)},
		{[]int{top, top, top, 0}, faultOf(api.ErrRange, 3)}, // ahead of what is too much
		{append(listOf(999, 1), 0), faultOf(api.ErrRange, 999)},
		{listOf(1000, 0), faultOf(api.ErrRange, 1)},
		{listOf(1000, 1), much},
		{listOf(1000, top), much},
		{listOf(1001, 1), many},
		{listOf(1001, 0), many}, // ahead of the entries
		{listOf(1001, math.MinInt), many},
		{listOf(5000, 1), many},
		{[]int{top, 1}, much},
		{[]int{0, top, 1}, much},
		{[]int{0, top, top}, much},
		{[]int{top, top}, much},
		{[]int{-top, 2}, much},
		{[]int{-top, top}, much},
		{[]int{-1, 1, top}, much},
		{[]int{-1, top, 1}, much},
		{[]int{500000000000000000, 2}, much},
		{[]int{-500000000000000001, 2}, much},
		{[]int{-1000000001, 1000000000}, much},
		{listOf(86, 1), none}, // which comes to 679891637638612258 over the one ahead
		{listOf(87, 1), much},
	} {
		if want := checkFold(t, c.l); want != c.want {
			t.Errorf("Fold(%v): %v, want %v", c.l, want, c.want)
		}
	}
}

// TestFoldOnlyReads: neither a list nor what lies behind its length is changed.
func TestFoldOnlyReads(t *testing.T) {
	memory := []int{3, 7, 16, 0, -5}
	if x, f := cont.Fold(memory[:3]); x != frac(355, 113) || f != none {
		t.Errorf("Fold: %v, %v", x, f)
	}
	if !slices.Equal(memory, []int{3, 7, 16, 0, -5}) {
		t.Errorf("the memory is now %v", memory)
	}
}
