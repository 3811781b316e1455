package lattice_test

import (
	"slices"
	"testing"

	"arithmetica/lattice"
	"arithmetica/sample"
	"arithmetica/square"
)

// checkReduced holds Reduced against the chapter's sentence, and counts what it answers.
func checkReduced(t *testing.T, b [][]int, outcomes map[bool]int) {
	t.Helper()
	x, _ := starsOf(b)
	want := x.isReduced()
	if is, f := lattice.Reduced(b); is != want || f != none {
		t.Fatalf("Reduced(%v): %v, %v, want %v", b, is, f, want)
	}
	outcomes[want]++
}

// checkReducedIs holds Reduced, and the tests' own sentence, against what is known of b.
func checkReducedIs(t *testing.T, b [][]int, want bool) {
	t.Helper()
	outcomes := map[bool]int{}
	checkReduced(t, b, outcomes)
	if outcomes[want] != 1 {
		t.Fatalf("Reduced(%v): want %v", b, want)
	}
	if want {
		_, least, _ := lattice.Short(b)
		checkFirst(t, b, least)
	}
}

func TestReducedOfChosenBases(t *testing.T) {
	for _, c := range []struct {
		b    [][]int
		want bool
	}{
		{[][]int{{1, 0}, {1, 1}}, false},
		{[][]int{{1, 0}, {0, 1}}, true},
		{[][]int{{7}}, true},
		{[][]int{{0, 0, 0, -small}}, true},
		{[][]int{{2, 0}, {1, 2}}, true},
		{[][]int{{2, 0}, {-1, 2}}, true},
		{[][]int{{2, 0}, {1, 1}}, false},
		{[][]int{{2, 0, 0}, {1, 1, 1}}, true},
		{[][]int{{3, 0}, {1, 2}}, false},
		{[][]int{{3, 0}, {1, 3}}, true},
		{[][]int{{2, 0, 0, 0}, {0, 1, 1, 1}}, true},
		{[][]int{{2, 0, 0}, {0, 1, 1}}, false},
		{[][]int{{1, 1}, {1, -1}}, true},
		{[][]int{{small, 0}, {0, 1}}, false},
		{[][]int{{1, 0}, {0, small}}, true},
		{[][]int{{1, 2}, {3, 4}}, false},
		{hadamard(5), true},
		// the last row leans on the first one alone
		{[][]int{{2, 0, 0}, {0, 2, 0}, {1, 0, 2}}, true},
		{[][]int{{2, 0, 0}, {0, 2, 0}, {2, 0, 2}}, false},
	} {
		checkReducedIs(t, c.b, c.want)
	}
	for _, b := range crooked() {
		checkReducedIs(t, b, true)
	}
}

// TestReducedAtAHalf: one mij is just 1/2 or -1/2, or just beyond, and all else is as it must be.
func TestReducedAtAHalf(t *testing.T) {
	for rows := 2; rows <= 5; rows++ {
		for columns := rows; columns <= 8; columns += 8 - rows {
			for i := 1; i < rows; i++ {
				for j := range i {
					for _, half := range []int{1, 2, 3, 1000, 499998, 499999} {
						for _, sign := range []int{1, -1} {
							checkReducedIs(t, sample.With(identity(rows, columns, 2*half), i, j, sign*half), true)
							checkReducedIs(t, sample.With(identity(rows, columns, 2*half), i, j, sign*(half+1)), false)
							checkReducedIs(t, sample.With(identity(rows, columns, 2*half+1), i, j, sign*half), true)
							checkReducedIs(t, sample.With(identity(rows, columns, 2*half+1), i, j, sign*(half+1)), false)
						}
					}
					checkReducedIs(t, sample.With(identity(rows, columns, small), i, j, small/2), true)
					checkReducedIs(t, sample.With(identity(rows, columns, small), i, j, -small/2), true)
					checkReducedIs(t, sample.With(identity(rows, columns, small), i, j, small/2+1), false)
				}
			}
		}
	}
}

// bent answers two rows: 2 half at the first place, and lean there with four squares behind it that are 3 half^2 - lean^2 and some more, in sum. So the norm of b*1 is the chapter's bound, and some more.
func bent(t *testing.T, half, lean, more int) [][]int {
	t.Helper()
	list, f := square.Four(3*half*half - lean*lean + more)
	if f != none {
		t.Fatalf("no four squares: %v", f)
	}
	return [][]int{{2 * half, 0, 0, 0, 0}, append([]int{lean}, list...)}
}

// among answers so many rows of 8 entries, of which the two stand from place on; those ahead are the shortest, and those behind the longest that there are, and they stand upright on all.
func among(two [][]int, rows, place int) [][]int {
	b := identity(rows, 8, 0)
	free := 5
	for i := range b {
		switch {
		case i == place || i == place+1:
			copy(b[i], two[i-place])
		case i < place:
			b[i][free] = 1
			free++
		default:
			b[i][free] = small
			free++
		}
	}
	return b
}

// TestReducedAtThreeQuarters: the norm of b*i is just 3/4 less the square of m i i-1, times the one ahead, or just less, or just more.
func TestReducedAtThreeQuarters(t *testing.T) {
	for _, half := range []int{1, 2, 3, 4, 5, 6, 7, 50, 999, 499999, 500000} {
		for _, lean := range []int{-half, -half + 1, -half / 2, -1, 0, 1, half / 3, half - 1, half} {
			if lean > half || lean < -half {
				continue
			}
			for place := range 4 {
				for rows := place + 2; rows <= 5; rows++ {
					checkReducedIs(t, among(bent(t, half, lean, 0), rows, place), true)
					checkReducedIs(t, among(bent(t, half, lean, 1), rows, place), true)
					checkReducedIs(t, among(bent(t, half, lean, -1), rows, place), false)
				}
			}
		}
	}
}

// TestReducedOfBasesOfAllKinds: as they are, as Reduce answers them, and one step away from that.
func TestReducedOfBasesOfAllKinds(t *testing.T) {
	outcomes := map[bool]int{}
	s := sample.NewStream()
	for _, b := range bases() {
		checkReduced(t, b, outcomes)
		answer, _ := lattice.Reduce(b)
		if slices.ContainsFunc(answer, func(row []int) bool { return slices.Max(row) > small/2 || slices.Min(row) < -small/2 }) {
			continue
		}
		checkReducedIs(t, answer, true)
		if len(b) < 2 {
			continue
		}
		i, j := s.Below(len(b)), s.Below(len(b)-1)
		if j >= i {
			j++
		}
		stepped := slices.Clone(answer)
		stepped[i] = plus(answer[i], 1-2*s.Below(2), answer[j])
		checkReduced(t, stepped, outcomes)
		stepped = slices.Clone(answer)
		stepped[i], stepped[j] = stepped[j], stepped[i]
		checkReduced(t, stepped, outcomes)
	}
	if outcomes[true] < 300 || outcomes[false] < 300 {
		t.Errorf("of the outcomes there are %v", outcomes)
	}
}
