package curve_test

import (
	"slices"
	"testing"

	"arithmetica/api"
	"arithmetica/sample"
)

func checkAdd(t *testing.T, c triple, q, r, want api.Point) {
	t.Helper()
	if got := add(t, c, q, r); got != want {
		t.Fatalf("Add of %v, %v and %v: %v, want %v", c, q, r, got, want)
	}
}

// checkAddByBoth holds Add against the line through both points, and against the chapter's words.
func checkAddByBoth(t *testing.T, c chords, q, r api.Point) {
	t.Helper()
	want, lines := c.byLine(q, r)
	if lines != 1 || want != c.sum(q, r) || !c.has(want) {
		t.Fatalf("the test's own ways to add %v and %v on %v differ: %d lines, %v, %v", q, r, c.triple, lines, want, c.sum(q, r))
	}
	checkAdd(t, c.triple, q, r, want)
}

func TestAddOnSmallCurves(t *testing.T) {
	for _, small := range smallCurves(23) {
		c, all := chordsOf(small), small.tried()
		for _, q := range all {
			for _, r := range all {
				checkAddByBoth(t, c, q, r)
			}
		}
	}
}

// picked answers so many points of all, among them, where there are any, those whose Y is 0, and, of a drawn one, its opposite.
func picked(s *sample.Stream, c triple, all []api.Point, many int) []api.Point {
	list := []api.Point{far, all[1], all[len(all)-1]}
	for _, q := range all {
		if !q.Far && q.Y == 0 {
			list = append(list, q)
		}
	}
	for range many {
		q := all[s.Below(len(all))]
		list = append(list, q)
		if !q.Far {
			list = append(list, at(q.X, rest(-q.Y, c.p)))
		}
	}
	return list
}

func TestAddOnGreatCurves(t *testing.T) {
	s := sample.NewStream()
	for _, great := range greatCurves(20) {
		c := chordsOf(great)
		some := picked(s, great, pointsOf(t, great), 8)
		for _, q := range some {
			for _, r := range some {
				checkAddByBoth(t, c, q, r)
			}
		}
	}
}

func TestAddOnChosenCurves(t *testing.T) {
	for _, c := range []struct {
		triple
		q, r, want api.Point
	}{
		{triple{5, 1, 1}, at(0, 1), at(0, 1), at(4, 2)},
		{triple{5, 1, 1}, at(0, 1), at(0, 4), far},
		{triple{5, 1, 1}, at(0, 4), at(0, 1), far},
		{triple{5, 1, 1}, at(0, 1), at(4, 2), at(2, 1)},
		{triple{5, 1, 1}, far, at(2, 4), at(2, 4)},
		{triple{5, 1, 1}, at(2, 4), far, at(2, 4)},
		{triple{5, 1, 1}, far, far, far},
		{triple{5, 2, 0}, at(0, 0), at(0, 0), far},
		{triple{5, 2, 0}, far, at(0, 0), at(0, 0)},
		{triple{5, 4, 0}, at(0, 0), at(1, 0), at(4, 0)},
		{triple{5, 4, 0}, at(1, 0), at(1, 0), far},
		{triple{5, 4, 0}, at(4, 0), at(0, 0), at(1, 0)},
		{triple{7, 0, 2}, at(0, 3), at(0, 3), at(0, 4)},
		{triple{7, 0, 2}, at(3, 1), at(5, 1), at(6, 6)},
		{triple{7, 0, 2}, at(6, 1), at(6, 6), far},
		{triple{97, 2, 3}, at(3, 6), at(3, 6), at(80, 10)},
		{triple{97, 2, 3}, at(80, 10), at(3, 6), at(80, 87)},
		{triple{97, 2, 3}, at(80, 10), at(80, 10), at(3, 91)},
		{triple{97, 2, 3}, at(17, 10), at(95, 31), at(1, 54)},
		{triple{97, 2, 3}, at(30, 0), at(68, 0), at(96, 0)},
		{triple{greatest, 0, 1}, at(0, 1), at(0, 1), at(0, 1998)},
		{triple{greatest, 0, 1}, at(2, 3), at(2, 3), at(0, 1)},
		{triple{greatest, 0, 1}, at(2, 3), at(0, 1998), at(2, 1996)},
		{triple{greatest, 0, 1}, at(2, 3), at(0, 1), at(1998, 0)},
		{triple{greatest, 0, 1}, at(1998, 0), at(2, 3), at(0, 1998)},
		{triple{greatest, 0, 1}, at(809, 0), at(1191, 0), at(1998, 0)},
		{triple{greatest, 1998, 0}, at(0, 0), at(1, 0), at(1998, 0)},
		{triple{greatest, 1998, 1998}, at(2, 100), at(2, 100), at(102, 894)},
		{triple{greatest, 1998, 1998}, at(2, 100), at(1997, 1318), at(1266, 980)},
		{triple{greatest, 1998, 1998}, at(2, 1899), at(2, 100), far},
		{triple{greatest, 1998, 1998}, at(1423, 0), at(1423, 0), far},
	} {
		checkAdd(t, c.triple, c.q, c.r, c.want)
	}
}

// TestPointsAreAGroupThatCommutes: of small curves by all points, of great ones by some.
func TestPointsAreAGroupThatCommutes(t *testing.T) {
	s := sample.NewStream()
	for _, c := range append(smallCurves(11), greatCurves(20)...) {
		some := pointsOf(t, c)
		if len(some) > 30 {
			some = picked(s, c, some, 4)
		}
		for _, q := range some {
			checkAdd(t, c, q, far, q)
			checkAdd(t, c, far, q, q)
			for _, r := range some {
				both := add(t, c, q, r)
				checkAdd(t, c, r, q, both)
				for _, u := range some {
					checkAdd(t, c, q, add(t, c, r, u), add(t, c, both, u))
				}
			}
		}
	}
}

// TestEachPointHasOneOpposite: among all points there is just one with which it is Far.
func TestEachPointHasOneOpposite(t *testing.T) {
	for _, c := range smallCurves(17) {
		all := pointsOf(t, c)
		for _, q := range all {
			var list []api.Point
			for _, r := range all {
				if add(t, c, q, r) == far {
					list = append(list, r)
				}
			}
			want := at(q.X, rest(-q.Y, c.p))
			if q.Far {
				want = far
			}
			if !slices.Equal(list, []api.Point{want}) {
				t.Fatalf("%v leads %v to Far on %v", list, q, c)
			}
		}
	}
}
