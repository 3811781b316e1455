package quad_test

import (
	"testing"

	"arithmetica/api"
	"arithmetica/quad"
)

// checkReduce holds P8.2 against long numbers: g is reduced, and m takes f to it.
func checkReduce(t *testing.T, f api.Form) {
	t.Helper()
	g, m, e := quad.Reduce(f)
	if e != none || !isReduced(g) {
		t.Fatalf("Reduce(%v): %v, %v, %v", f, g, m, e)
	}
	p, q, r, s := large(m[0]), large(m[1]), large(m[2]), large(m[3])
	if one := product(p, s); one.Sub(one, product(q, r)).Cmp(large(1)) != 0 || !longOf(f).turnBy(m).is(longOf(g)) {
		t.Fatalf("Reduce(%v): %v, %v", f, g, m)
	}
	for x := -2; x <= 2; x++ {
		for y := -2; y <= 2; y++ {
			want := longOf(g).value(large(x), large(y))
			across, up := sum(product(p, large(x)), product(q, large(y))), sum(product(r, large(x)), product(s, large(y)))
			if got := longOf(f).value(across, up); got.Cmp(want) != 0 {
				t.Fatalf("Reduce(%v): %v, %v: %d at %d, %d, but %d", f, g, m, want, x, y, got)
			}
		}
	}
}

// TestReduceByTryingAll: of all forms that are like f by small numbers, g is the only one that is reduced.
func TestReduceByTryingAll(t *testing.T) {
	all := turns(6)
	for _, f := range fine(formsWithin(5)) {
		found := map[api.Form]int{}
		for _, m := range all {
			if g := turn(f, m); isReduced(g) {
				found[g]++
			}
		}
		g, _, _ := quad.Reduce(f)
		if len(found) != 1 || found[g] == 0 {
			t.Errorf("Reduce(%v): %v, but tried are %v", f, g, found)
		}
		checkReduce(t, f)
	}
}

func TestReduceOfSmallForms(t *testing.T) {
	for _, f := range fine(formsWithin(14)) {
		checkReduce(t, f)
	}
}

func TestReduceOfGreatForms(t *testing.T) {
	list := greatForms(2000)
	if len(list) < 4000 {
		t.Errorf("only %d were tried", len(list))
	}
	for _, f := range list {
		checkReduce(t, f)
		if g, _, _ := quad.Reduce(f); g != longOf(f).reduced() {
			t.Fatalf("Reduce(%v): %v, want %v", f, g, longOf(f).reduced())
		}
	}
}

// TestReduceIsTheSameOfAllThatAreLike: each form is like just one that is reduced.
func TestReduceIsTheSameOfAllThatAreLike(t *testing.T) {
	for _, d := range []int{-3, -4, -20, -23, -32, -84, -231, -400, -1155} {
		list, _ := quad.Classes(d)
		for _, want := range list {
			many := 0
			for _, m := range append(turns(3), farTurns()...) {
				f := turn(want, m)
				if wrong(f) != none { // beyond MaxSmall
					continue
				}
				many++
				if got, _, e := quad.Reduce(f); got != want || e != none {
					t.Fatalf("Reduce(%v): %v, %v, want %v", f, got, e, want)
				}
			}
			if many < 200 {
				t.Errorf("only %d forms like %v were tried", many, want)
			}
		}
	}
}

func TestReduceOfChosenForms(t *testing.T) {
	for _, c := range []struct{ f, want api.Form }{
		{form(12, 23, 12), form(1, 1, 12)},
		{form(1, 1, 1), form(1, 1, 1)},
		{form(1, -1, 1), form(1, 1, 1)},
		{form(1, 0, 1), form(1, 0, 1)},
		{form(2, 2, 3), form(2, 2, 3)},  // B is A
		{form(2, -2, 3), form(2, 2, 3)}, // B is -A
		{form(3, 2, 3), form(3, 2, 3)},  // A is C
		{form(3, -2, 3), form(3, 2, 3)},
		{form(2, 1, 3), form(2, 1, 3)},
		{form(2, -1, 3), form(2, -1, 3)},
		{form(3, 1, 2), form(2, -1, 3)}, // A is above C
		{form(3, -1, 2), form(2, 1, 3)},
		{form(2, 3, 4), form(2, -1, 3)}, // B is above A
		{form(2, -3, 4), form(2, 1, 3)},
		{form(small, small, small-1), form(small-1, small-2, small-1)},
		{form(small, -small, small-1), form(small-1, small-2, small-1)},
		{form(small-1, small, small), form(small-1, small-2, small-1)},
		{form(small-1, -small, small), form(small-1, small-2, small-1)},
		{form(small, small-1, small), form(small, small-1, small)},
		{form(small, 1-small, small), form(small, small-1, small)},
		{form(small, 1-small, small-1), form(small-1, small-1, small)},
		{form(small, -1, small), form(small, 1, small)},
		{form(small, 1, small-1), form(small-1, -1, small)},
		{form(small, 1, 1), form(1, 1, small)},
		{form(1, 1, small), form(1, 1, small)},
		{form(1, -1, small), form(1, 1, small)},
		{form(small, 0, 1), form(1, 0, small)},
		{form(250001, small, small-1), form(3, -2, 250000)},
		{form(250001, small, small), form(4, 4, 250001)},
		{form(small, -small, 250001), form(4, 4, 250001)},
		{form(500000, 999999, 500000), form(1, 1, 500000)},
		{form(500000, -999999, 500000), form(1, 1, 500000)},
		{form(744199, 919881, 284259), form(1, 1, 1)}, // far from it
		{form(744199, -919881, 284259), form(1, 1, 1)},
		{form(88999, 110003, 33991), form(1, 1, 7)},
		{form(514229, 635622, 196418), form(1, 0, 1)},
		{form(1, 1998, 998002), form(1, 0, 1)},
	} {
		checkReduce(t, c.f)
		if got, _, e := quad.Reduce(c.f); got != c.want || e != none {
			t.Errorf("Reduce(%v): %v, %v, want %v", c.f, got, e, c.want)
		}
	}
}
