package lattice_test

import (
	"slices"
	"testing"

	"arithmetica/lattice"
)

// checkShortOf holds Short's vector against the lattice, and its norm against the vector, and answers both.
func checkShortOf(t *testing.T, b [][]int) ([]int, int) {
	t.Helper()
	v, least, f := lattice.Short(b)
	if f != none || len(v) != len(b[0]) || norm(v) != least || least == 0 {
		t.Fatalf("Short(%v): %v, %d, %v", b, v, least, f)
	}
	if x, _ := starsOf(b); !x.has(v) {
		t.Fatalf("Short(%v): %v is not of the lattice", b, v)
	}
	return v, least
}

// checkShort holds Short against a least norm that is known.
func checkShort(t *testing.T, b [][]int, least int) {
	t.Helper()
	if v, got := checkShortOf(t, b); got != least {
		t.Fatalf("Short(%v): %v, %d, want %d", b, v, got, least)
	}
}

// TestShortOfBasesOfAllKinds: the least norm is reckoned with fractions, from the basis that Reduce answers.
func TestShortOfBasesOfAllKinds(t *testing.T) {
	for _, b := range bases() {
		_, least := checkShortOf(t, b)
		x, _ := starsOf(checkReduce(t, b))
		if want := x.least(); want.Cmp(fraction(least, 1)) != 0 {
			t.Fatalf("Short(%v): %d, want %v", b, least, want)
		}
		for _, reduced := range [][][]int{b, checkReduce(t, b)} {
			if shorter := shorterAmong(reduced, least); shorter != nil {
				t.Fatalf("Short(%v): %d, but %v is shorter", b, least, shorter)
			}
		}
	}
}

// shorterAmong tries all multiples from -2 to 2 of each row of b, and answers what is not 0 and shorter than least; nil, if there is none.
func shorterAmong(b [][]int, least int) []int {
	sums := [][]int{make([]int, len(b[0]))}
	for _, row := range b {
		var next [][]int
		for _, sum := range sums {
			for times := -2; times <= 2; times++ {
				next = append(next, plus(sum, times, row))
			}
		}
		sums = next
	}
	for _, sum := range sums {
		if n := norm(sum); n > 0 && n < least {
			return sum
		}
	}
	return nil
}

// TestShortOfSmallBases: no vector at all with a lesser norm is of the lattice.
func TestShortOfSmallBases(t *testing.T) {
	outcomes := map[int]int{}
	for _, b := range smallBases() {
		_, least := checkShortOf(t, b)
		x, _ := starsOf(b)
		for _, v := range below(least, len(b[0])) {
			if x.has(v) {
				t.Fatalf("Short(%v): %d, but %v is shorter", b, least, v)
			}
		}
		outcomes[least]++
	}
	if len(outcomes) < 10 {
		t.Errorf("of the norms there are %v", outcomes)
	}
}

// below answers all vectors of so many entries that are not 0 and have a norm below the given one.
func below(bound, columns int) [][]int {
	list := [][]int{nil}
	for range columns {
		var next [][]int
		for _, v := range list {
			for n := -bound; n <= bound; n++ {
				if norm(v)+n*n < bound {
					next = append(next, append(slices.Clone(v), n))
				}
			}
		}
		list = next
	}
	return slices.DeleteFunc(list, func(v []int) bool { return norm(v) == 0 })
}

// TestShortOfTwoRows: the least norm is found as Gauss does it: the longer row less the nearest multiple of the other one, as long as that makes it shorter.
func TestShortOfTwoRows(t *testing.T) {
	for _, b := range append(bases(), smallBases()...) {
		if len(b) != 2 {
			continue
		}
		x, y := b[0], b[1]
		for {
			if norm(x) > norm(y) {
				x, y = y, x
			}
			both := (norm(plus(x, 1, y)) - norm(x) - norm(y)) / 2
			times := (2*max(both, -both) + norm(x)) / (2 * norm(x))
			if both > 0 {
				times = -times
			}
			shorter := plus(y, times, x)
			if norm(shorter) >= norm(y) {
				break
			}
			y = shorter
		}
		checkShort(t, b, norm(x))
	}
}

func TestShortOfChosenBases(t *testing.T) {
	for _, c := range []struct {
		b     [][]int
		least int
	}{
		{[][]int{{1, 2}, {3, 4}}, 1},
		{[][]int{{5, 0}, {3, 4}}, 20},
		{[][]int{{201, 37}, {1648, 297}}, 1025},
		{[][]int{{-3}}, 9},
		{[][]int{{small}}, small * small},
		{[][]int{{small, small, small, small, small, small, small, small}}, 8 * small * small},
		{[][]int{{small, small - 1}, {small - 1, small - 2}}, 1},
		{[][]int{{1, small}, {0, 1}}, 1},
		{[][]int{{small, small, small, small, small}, {small, small, small, small, -small}}, 4 * small * small},
		{hadamard(5), 8 * small * small},
		// several vectors of the least norm
		{identity(5, 5, 1), 1},
		{identity(5, 8, small), small * small},
		{stairs(5, 8), 2},
		{[][]int{{1, 1, 0, 0}, {1, -1, 0, 0}, {0, 1, -1, 0}, {0, 0, 1, -1}}, 2},
		{[][]int{{1, 1, 0, 0, 0}, {1, -1, 0, 0, 0}, {0, 1, -1, 0, 0}, {0, 0, 1, -1, 0}, {0, 0, 0, 1, -1}}, 2},
		{[][]int{{0, 2, 0, 0}, {0, 0, 2, 0}, {0, 0, 0, 2}, {1, 1, 1, 1}}, 4},
		{[][]int{{0, 2, 0, 0}, {0, 0, 2, 0}, {1, 1, 1, 0}, {0, 0, 0, 9}}, 3},
		// 1 -1 1 and its opposite alone
		{[][]int{{1, 0, small}, {0, 1, small - 1}}, 3},
	} {
		checkShort(t, c.b, c.least)
	}
}
