package grid_test

import (
	"math"
	"slices"
	"testing"

	"arithmetica/api"
	"arithmetica/grid"
	"arithmetica/sample"
)

// wantCheck is P12.1, sentence by sentence.
func wantCheck(m [][]int) api.Fault {
	if len(m) == 0 || len(m) > 8 || len(m[0]) == 0 || len(m[0]) > 8 {
		return faultOf(api.ErrMany, 0)
	}
	for i := range m {
		if len(m[i]) != len(m[0]) {
			return faultOf(api.ErrSize, i)
		}
	}
	for i := range m {
		if slices.Max(m[i]) > 1000000 || slices.Min(m[i]) < -1000000 {
			return faultOf(api.ErrRange, i)
		}
	}
	return none
}

func TestCheckOfRightMatrices(t *testing.T) {
	for _, m := range matrices() {
		if f := grid.Check(m); f != none || wantCheck(m) != none {
			t.Fatalf("Check(%v): %v", m, f)
		}
	}
}

func TestCheckTellsItsFaultsInOrder(t *testing.T) {
	outcomes := map[api.Fault]int{}
	for _, m := range sample.Spoilt(8) {
		f := grid.Check(m)
		if want := wantCheck(m); f != want || f == none {
			t.Fatalf("Check of %d rows: %v, want %v: %.200v", len(m), f, want, m)
		}
		outcomes[f]++
	}
	// ErrMany is at 0 alone, ErrSize at no 0, ErrRange at all.
	if len(outcomes) != 1+7+8 {
		t.Errorf("not each outcome is met: %v", outcomes)
	}
}

func TestCheckOfChosenMatrices(t *testing.T) {
	for _, c := range []struct {
		m    [][]int
		want api.Fault
	}{
		{[][]int{{0}}, none},
		{sample.Ones(8, 8), none},
		{[][]int{{small, -small}}, none},
		{[][]int{{1, 2}, {3}}, faultOf(8, 1)},
		{[][]int{{1}, {3}, {4}, {5, 6}, {}}, faultOf(8, 3)},
		{[][]int{{1, 2}, {3, 4}, {5, small + 1}}, faultOf(3, 2)},
		{[][]int{{1, 2}, {3, -small - 1}, {5, small + 1}}, faultOf(3, 1)},
		{[][]int{{small + 1, 2}, {3, 4}, {5}}, faultOf(8, 2)},
		{nil, faultOf(2, 0)},
		{[][]int{{}}, faultOf(2, 0)},
		{sample.Ones(9, 1), faultOf(2, 0)},
		{sample.Ones(1, 9), faultOf(2, 0)},
	} {
		if f := grid.Check(c.m); f != c.want {
			t.Errorf("Check(%v): %v, want %v", c.m, f, c.want)
		}
	}
}

// checkFaults holds all calls against the fault that they must tell of m first, and nothing beside it.
func checkFaults(t *testing.T, m [][]int, b []int, want api.Fault) {
	t.Helper()
	if text, f := grid.Det(m); f != want || text != "" {
		t.Fatalf("Det: %q, %v, want %v: %.200v", text, f, want, m)
	}
	if h, u, f := grid.Hermite(m); f != want || len(h) != 0 || len(u) != 0 {
		t.Fatalf("Hermite: %v, %v, %v, want %v: %.200v", h, u, f, want, m)
	}
	if d, u, v, f := grid.Smith(m); f != want || len(d) != 0 || len(u) != 0 || len(v) != 0 {
		t.Fatalf("Smith: %v, %v, %v, %v, want %v: %.200v", d, u, v, f, want, m)
	}
	if x, k, f := grid.Solve(m, b); f != want || len(x) != 0 || len(k) != 0 {
		t.Fatalf("Solve: %v, %v, %v, want %v: %.200v, %v", x, k, f, want, m, b)
	}
}

// TestAllTellWhatCheckSaysFirst: ahead of what is not square, and of what is wrong with b.
func TestAllTellWhatCheckSaysFirst(t *testing.T) {
	for i, m := range sample.Spoilt(8) {
		right := make([]int, len(m))
		checkFaults(t, m, [][]int{right, nil, {1, 2}, {small + 1}, {1, 2, 3, 4, 5, 6, 7, 8, 9}}[i%5], wantCheck(m))
		checkFaults(t, m, right, wantCheck(m))
	}
}

func TestDetTellsWhatIsNotSquare(t *testing.T) {
	for rows := 1; rows <= 8; rows++ {
		for columns := 1; columns <= 8; columns++ {
			want := none
			if rows != columns {
				want = faultOf(api.ErrKind, 0)
			}
			for _, m := range [][][]int{sample.Ones(rows, columns), sample.Filled(rows, columns, func(i, j int) int { return 0 }), sample.With(sample.Ones(rows, columns), rows-1, columns-1, -small)} {
				if text, f := grid.Det(m); f != want || (text == "") != (f != none) {
					t.Errorf("Det(%v): %q, %v, want %v", m, text, f, want)
				}
			}
		}
	}
}

// wantOfB is what P12.4 tells of b, but ErrNone.
func wantOfB(m [][]int, b []int) api.Fault {
	if len(b) != len(m) {
		return faultOf(api.ErrSize, 0)
	}
	for i, n := range b {
		if n > 1000000 || n < -1000000 {
			return faultOf(api.ErrRange, i)
		}
	}
	return none
}

// TestSolveTellsWhatIsWrongWithB: how many there are ahead of how great they are, and both ahead of ErrNone.
func TestSolveTellsWhatIsWrongWithB(t *testing.T) {
	outcomes := map[api.Fault]int{}
	for rows := 1; rows <= 8; rows++ {
		lists := [][]int{nil, {}}
		for length := 1; length <= 10; length++ {
			lists = append(lists, make([]int, length), slices.Repeat([]int{small}, length), slices.Repeat([]int{-small}, length))
			for i := range length {
				for _, value := range sample.Beyond() {
					lists = append(lists, sample.With(sample.Ones(1, length), 0, i, value)[0], sample.With(sample.With(sample.Ones(1, length), 0, i, value), 0, length-1, small+1)[0])
				}
			}
		}
		for _, m := range [][][]int{sample.Ones(rows, 1), sample.Ones(rows, rows), sample.Ones(rows, 8), sample.Filled(rows, 3, func(i, j int) int { return 0 }), sample.Filled(rows, 2, func(i, j int) int { return small })} {
			for _, b := range lists {
				want := wantOfB(m, b)
				x, k, f := grid.Solve(m, b)
				if want == none && f.Code == api.ErrNone {
					want = faultOf(api.ErrNone, 0)
				}
				if f != want || (len(x) == 0) != (f != none) || f != none && len(k) != 0 {
					t.Fatalf("Solve(%v, %v): %v, %v, %v, want %v", m, b, x, k, f, want)
				}
				outcomes[f]++
			}
		}
	}
	// none, ErrNone, ErrSize, and ErrRange at eight places
	if len(outcomes) != 3+8 {
		t.Errorf("not each outcome is met: %v", outcomes)
	}
}

func TestSolveOfChosenWrongLists(t *testing.T) {
	m := [][]int{{2, 4}, {6, 8}}
	for _, c := range []struct {
		b    []int
		want api.Fault
	}{
		{nil, faultOf(8, 0)},
		{[]int{1}, faultOf(8, 0)},
		{[]int{2, 2, 2}, faultOf(8, 0)},
		{[]int{small + 1}, faultOf(8, 0)},
		{[]int{small + 1, 0, 0}, faultOf(8, 0)},
		{[]int{small + 1, -small - 1}, faultOf(3, 0)},
		{[]int{1, -small - 1}, faultOf(3, 1)},
		{[]int{1, math.MinInt}, faultOf(3, 1)},
		{[]int{1, 2}, faultOf(5, 0)},
		{[]int{2, 2}, none},
	} {
		if _, _, f := grid.Solve(m, c.b); f != c.want {
			t.Errorf("Solve(%v, %v): %v, want %v", m, c.b, f, c.want)
		}
	}
}
