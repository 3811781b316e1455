package lattice_test

import (
	"math"
	"slices"
	"testing"

	"arithmetica/api"
	"arithmetica/lattice"
	"arithmetica/sample"
)

// wantCheck is P13.1, sentence by sentence.
func wantCheck(b [][]int) api.Fault {
	if len(b) < 1 || len(b) > 5 || len(b[0]) < 1 || len(b[0]) > 8 {
		return faultOf(api.ErrMany, 0)
	}
	for i, row := range b {
		if len(row) != len(b[0]) {
			return faultOf(api.ErrSize, i)
		}
	}
	for i, row := range b {
		if slices.ContainsFunc(row, func(n int) bool { return n > 1000000 || n < -1000000 }) {
			return faultOf(api.ErrRange, i)
		}
	}
	if _, ok := starsOf(b); !ok {
		return faultOf(api.ErrForm, 0)
	}
	return none
}

// checkFault holds Check against what it must tell of b, and the others against Check: with a fault, all else is zero.
func checkFault(t *testing.T, b [][]int, want api.Fault) {
	t.Helper()
	if f := lattice.Check(b); f != want {
		t.Fatalf("Check of %d rows: %v, want %v: %.300v", len(b), f, want, b)
	}
	if answer, f := lattice.Reduce(b); f != want || (len(answer) == 0) != (f != none) {
		t.Fatalf("Reduce(%v): %v, %v, want %v", b, answer, f, want)
	}
	if is, f := lattice.Reduced(b); f != want || is && f != none {
		t.Fatalf("Reduced(%v): %v, %v, want %v", b, is, f, want)
	}
	if v, least, f := lattice.Short(b); f != want || (len(v) == 0) != (f != none) || (least == 0) != (f != none) {
		t.Fatalf("Short(%v): %v, %d, %v, want %v", b, v, least, f, want)
	}
}

func TestAllTellTheFaultsInOrder(t *testing.T) {
	outcomes := map[api.Fault]int{}
	for _, b := range sample.Spoilt(5) {
		want := wantCheck(b)
		checkFault(t, b, want)
		outcomes[want]++
	}
	// ErrMany is at 0 alone, ErrSize at no 0, ErrRange at all.
	if outcomes[none] != 0 || len(outcomes) != 1+4+5 {
		t.Errorf("not each outcome is met, or one too many: %v", outcomes)
	}
}

func TestAllTellNoFaultOfRightBases(t *testing.T) {
	for _, b := range bases() {
		checkFault(t, b, none)
	}
}

// dependent answers rows of which one is a sum of multiples of the others, and that have no other fault.
func dependent(s *sample.Stream) [][][]int {
	var list [][][]int
	for rows := 1; rows <= 5; rows++ {
		// more rows than entries
		for columns := 1; columns < rows; columns++ {
			list = append(list, sample.Ones(rows, columns), sample.Filled(rows, columns, func(i, j int) int { return s.UpTo(small) }), sample.Filled(rows, columns, func(i, j int) int { return small - i - j*j }))
		}
		for columns := rows; columns <= 8; columns++ {
			for _, b := range kinds(s, rows, columns) {
				at := s.Below(rows)
				list = append(list, replaced(b, at, make([]int, columns)), leaning(b, at, 0), leaning(b, at, s.Below(rows)))
				if other := s.Below(rows); other != at {
					list = append(list, replaced(b, at, b[other]), replaced(b, at, plus(make([]int, columns), -1, b[other])))
				}
			}
		}
	}
	return list
}

// replaced answers b with another row at its place.
func replaced(b [][]int, at int, row []int) [][]int {
	b = slices.Clone(b)
	b[at] = row
	return b
}

// leaning answers rows like those of b, of which the one at its place is a sum of fractions of the others, from the first one on: 1/2, 1/3, 1/5, 1/7, 1/9 of them, with signs that turn.
func leaning(b [][]int, at, first int) [][]int {
	var answer [][]int
	sum := make([]int, len(b[0]))
	for i, row := range b {
		part := slices.Clone(row)
		for j := range part {
			part[j] %= small / 10
		}
		answer = append(answer, plus(make([]int, len(row)), []int{2, 3, 5, 7, 9}[i], part))
		if i != at && i >= first {
			sum = plus(sum, 1-i%2*2, part)
		}
	}
	return replaced(answer, at, sum)
}

func TestAllTellThatRowsLeanOnOthers(t *testing.T) {
	list := dependent(sample.NewStream())
	for _, b := range list {
		if want := wantCheck(b); want != faultOf(api.ErrForm, 0) {
			t.Fatalf("the test's own rows have another fault: %v, %v", b, want)
		}
		checkFault(t, b, faultOf(api.ErrForm, 0))
	}
	if len(list) < 2000 {
		t.Errorf("only %d are tried", len(list))
	}
}

// TestAllTellWhatNearlyLeans: one entry of a row that leans on others is changed by 1.
func TestAllTellWhatNearlyLeans(t *testing.T) {
	outcomes := map[api.Fault]int{}
	s := sample.NewStream()
	for _, b := range dependent(s) {
		if len(b) > len(b[0]) || s.Below(3) > 0 {
			continue
		}
		i, j := s.Below(len(b)), s.Below(len(b[0]))
		b = sample.With(b, i, j, b[i][j]-1+2*s.Below(2))
		want := wantCheck(b)
		checkFault(t, b, want)
		outcomes[want]++
	}
	if outcomes[none] < 500 || outcomes[faultOf(api.ErrForm, 0)] < 10 {
		t.Errorf("of the outcomes there are %v", outcomes)
	}
}

func TestCheckOfChosenBases(t *testing.T) {
	for _, c := range []struct {
		b    [][]int
		want api.Fault
	}{
		{nil, faultOf(2, 0)},
		{[][]int{}, faultOf(2, 0)},
		{[][]int{nil}, faultOf(2, 0)},
		{[][]int{{}, {1}}, faultOf(2, 0)},
		{identity(5, 5, 1), none},
		{identity(6, 6, 1), faultOf(2, 0)},
		{identity(6, 8, small+1), faultOf(2, 0)},
		{identity(1, 8, 1), none},
		{identity(1, 9, 1), faultOf(2, 0)},
		{identity(1, 9, small+1), faultOf(2, 0)},
		{[][]int{{1, 0}, {0, 1}, {0}}, faultOf(8, 2)},
		{[][]int{{small + 1, 0}, {0, 1}, {0}}, faultOf(8, 2)},
		{[][]int{{1, 0}, {}, {0}}, faultOf(8, 1)},
		{[][]int{{1, 0}, {0, 1, 0}}, faultOf(8, 1)},
		{[][]int{{1}, make([]int, 9)}, faultOf(8, 1)},
		{[][]int{{1, 0}, {0, small + 1}}, faultOf(3, 1)},
		{[][]int{{1, 0}, {0, -small - 1}}, faultOf(3, 1)},
		{[][]int{{1, 0}, {math.MinInt, 1}, {math.MaxInt, 0}}, faultOf(3, 1)},
		{[][]int{{0, small + 1}, {0, small + 1}}, faultOf(3, 0)},
		{[][]int{{0, 0}, {0, small + 1}}, faultOf(3, 1)},
		{[][]int{{0}}, faultOf(6, 0)},
		{[][]int{{0, 0, 0, 0, 0, 0, 0, 0}}, faultOf(6, 0)},
		{[][]int{{1}, {1}}, faultOf(6, 0)},
		{[][]int{{1}, {2}, {3}, {4}, {5}}, faultOf(6, 0)},
		{[][]int{{1, 2}, {2, 4}}, faultOf(6, 0)},
		{[][]int{{2, 4}, {3, 6}}, faultOf(6, 0)},
		{[][]int{{1, 0}, {0, 1}, {5, -7}}, faultOf(6, 0)},
		{[][]int{{1, 1, 0}, {0, 1, 1}, {1, 2, 1}}, faultOf(6, 0)},
		{[][]int{{2, 0, 0}, {0, 2, 0}, {1, 1, 0}}, faultOf(6, 0)},
		{[][]int{{0, 0}, {0, 1}}, faultOf(6, 0)},
		{[][]int{{small, small - 1}, {small - 1, small - 2}}, none},
		{[][]int{{small, small - 2}, {small / 2, small/2 - 1}}, faultOf(6, 0)},
		{[][]int{{1, 2, 3}, {4, 5, 6}, {7, 8, 9}}, faultOf(6, 0)},
		{[][]int{{1, 2, 3}, {4, 5, 6}, {7, 8, 10}}, none},
	} {
		checkFault(t, c.b, c.want)
	}
}
