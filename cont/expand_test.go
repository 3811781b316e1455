package cont_test

import (
	"math/big"
	"slices"
	"testing"

	"arithmetica/api"
	"arithmetica/cont"
	"arithmetica/sample"
)

// checkExpand holds Expand's list against the chapter's sentence, and Fold against what is expanded.
func checkExpand(t *testing.T, a, b int) {
	t.Helper()
	l, f := cont.Expand(a, b)
	if f != none || len(l) == 0 {
		t.Fatalf("Expand(%d, %d): %v, %v", a, b, l, f)
	}
	for i, entry := range l {
		if i > 0 && entry < 1 || i > 0 && i == len(l)-1 && entry < 2 {
			t.Fatalf("Expand(%d, %d): %v has %d at %d", a, b, l, entry, i)
		}
	}
	want := big.NewRat(int64(a), int64(b))
	if got := comesTo(l); got.Cmp(want) != 0 {
		t.Fatalf("Expand(%d, %d): %v comes to %v", a, b, l, got)
	}
	x, f := cont.Fold(l)
	if f != none || large(x.Up).Cmp(want.Num()) != 0 || large(x.Down).Cmp(want.Denom()) != 0 {
		t.Fatalf("Fold(%v): %v, %v, want %v", l, x, f, want)
	}
}

func TestExpandOfSmallNumbers(t *testing.T) {
	for a := -60; a <= 60; a++ {
		for b := -60; b <= 60; b++ {
			if b != 0 {
				checkExpand(t, a, b)
			}
		}
	}
}

func TestExpandOfAllLengths(t *testing.T) {
	list := sample.Numbers(120)
	for _, a := range list {
		for _, b := range list {
			if b != 0 {
				checkExpand(t, a, b)
			}
		}
	}
}

// TestExpandOfLongLists: of two neighbours among Fibonacci's numbers all quotients are 1, so that their lists are the longest.
func TestExpandOfLongLists(t *testing.T) {
	before, last := 1, 1
	for before+last <= top {
		before, last = last, before+last
		checkExpand(t, last, before)
		checkExpand(t, before, last)
		checkExpand(t, -last, before)
		checkExpand(t, before, -last)
	}
	if l, _ := cont.Expand(last, before); len(l) != 85 {
		t.Errorf("Expand(%d, %d) has %d entries", last, before, len(l))
	}
}

func TestExpandOfChosenNumbers(t *testing.T) {
	for _, c := range []struct {
		a, b int
		want []int
	}{
		{-7, 3, []int{-3, 1, 2}},
		{7, -3, []int{-3, 1, 2}},
		{7, 3, []int{2, 3}},
		{-7, -3, []int{2, 3}},
		{355, 113, []int{3, 7, 16}},
		{710, 226, []int{3, 7, 16}},
		{0, 1, []int{0}},
		{0, -1, []int{0}},
		{0, top, []int{0}},
		{0, -top, []int{0}},
		{5, 1, []int{5}},
		{5, -1, []int{-5}},
		{-5, -1, []int{5}},
		{12, 4, []int{3}},
		{12, -4, []int{-3}},
		{1, 2, []int{0, 2}},
		{-1, 2, []int{-1, 2}},
		{1, -3, []int{-1, 1, 2}},
		{3, 2, []int{1, 2}},
		{top, 1, []int{top}},
		{-top, 1, []int{-top}},
		{top, -1, []int{-top}},
		{-top, -1, []int{top}},
		{top, top, []int{1}},
		{-top, top, []int{-1}},
		{1, top, []int{0, top}},
		{-1, top, []int{-1, 1, top - 1}},
		{1, -top, []int{-1, 1, top - 1}},
		{top - 1, top, []int{0, 1, top - 1}},
		{top, top - 1, []int{1, top - 1}},
		{-top, top - 1, []int{-2, 1, top - 2}},
	} {
		if got, f := cont.Expand(c.a, c.b); !slices.Equal(got, c.want) || f != none {
			t.Errorf("Expand(%d, %d): %v, %v, want %v", c.a, c.b, got, f, c.want)
		}
	}
}

// wrongExpand tells what Expand must say of its arguments.
func wrongExpand(a, b int) api.Fault {
	for at, n := range []int{a, b} {
		if n < -top || n > top {
			return faultOf(api.ErrRange, at)
		}
	}
	if b == 0 {
		return faultOf(api.ErrZero, 1)
	}
	return none
}

// TestExpandOfWildNumbers: P1. All edges stand in each place.
func TestExpandOfWildNumbers(t *testing.T) {
	for _, a := range sample.Edges() {
		for _, b := range sample.Edges() {
			want := wrongExpand(a, b)
			if want == none {
				checkExpand(t, a, b)
			} else if l, f := cont.Expand(a, b); len(l) != 0 || f != want {
				t.Errorf("Expand(%d, %d): %v, %v, want %v", a, b, l, f, want)
			}
		}
	}
}

func TestWrongExpand(t *testing.T) {
	for arguments, want := range map[[2]int]api.Fault{
		{top + 1, 1}:       faultOf(api.ErrRange, 0),
		{-top - 1, 1}:      faultOf(api.ErrRange, 0),
		{top + 1, top + 1}: faultOf(api.ErrRange, 0),
		{top + 1, 0}:       faultOf(api.ErrRange, 0),
		{1, top + 1}:       faultOf(api.ErrRange, 1),
		{0, -top - 1}:      faultOf(api.ErrRange, 1),
		{1, 0}:             faultOf(api.ErrZero, 1),
		{0, 0}:             faultOf(api.ErrZero, 1),
		{-top, 0}:          faultOf(api.ErrZero, 1),
	} {
		if l, f := cont.Expand(arguments[0], arguments[1]); len(l) != 0 || f != want {
			t.Errorf("Expand%v: %v, %v, want %v", arguments, l, f, want)
		}
	}
}

func TestExpandAnswersNewMemory(t *testing.T) {
	one, _ := cont.Expand(355, 113)
	one[0], one[1], one[2] = 9, 9, 9
	if other, _ := cont.Expand(355, 113); !slices.Equal(other, []int{3, 7, 16}) {
		t.Errorf("Expand(355, 113): %v", other)
	}
}
