package quad_test

import (
	"math"
	"testing"

	"arithmetica/api"
	"arithmetica/quad"
	"arithmetica/sample"
)

func TestCheckOfSmallForms(t *testing.T) {
	kinds := map[api.Fault]int{}
	for _, f := range formsWithin(12) {
		got, want := quad.Check(f), wrong(f)
		if got != want {
			t.Errorf("Check(%v): %v, want %v", f, got, want)
		}
		kinds[want]++
	}
	for _, kind := range []api.Fault{none, faultOf(api.ErrKind, 0), faultOf(api.ErrForm, 0)} {
		if kinds[kind] < 100 {
			t.Errorf("%v is only told %d times", kind, kinds[kind])
		}
	}
}

func TestCheckOfGreatForms(t *testing.T) {
	list := smalls(40)
	for _, a := range list {
		for _, b := range list {
			for _, c := range list {
				if got, want := quad.Check(form(a, b, c)), wrong(form(a, b, c)); got != want {
					t.Fatalf("Check(%v): %v, want %v", form(a, b, c), got, want)
				}
			}
		}
	}
}

// wrongForms are forms with what Check says of them.
func wrongForms() map[api.Form]api.Fault {
	return map[api.Form]api.Fault{
		form(small+1, 1, 1):                         faultOf(api.ErrRange, 0),
		form(-small-1, 1, 1):                        faultOf(api.ErrRange, 0),
		form(math.MinInt, math.MinInt, math.MinInt): faultOf(api.ErrRange, 0),
		form(math.MaxInt, math.MaxInt, math.MaxInt): faultOf(api.ErrRange, 0),
		form(small+1, small+1, small+1):             faultOf(api.ErrRange, 0),
		form(small, small+1, small):                 faultOf(api.ErrRange, 1),
		form(small, -small-1, small):                faultOf(api.ErrRange, 1),
		form(0, math.MinInt, small+1):               faultOf(api.ErrRange, 1),
		form(1, 1, small+1):                         faultOf(api.ErrRange, 2),
		form(1, 1, -small-1):                        faultOf(api.ErrRange, 2),
		form(0, 0, math.MinInt):                     faultOf(api.ErrRange, 2),
		form(1<<32, 1, 1):                           faultOf(api.ErrRange, 0), // whose products wrap round to small ones
		form(1, 1<<32, 1):                           faultOf(api.ErrRange, 1),
		form(2, 2, 1<<62+1):                         faultOf(api.ErrRange, 2),
		form(0, 0, 0):                               faultOf(api.ErrKind, 0),
		form(0, 1, 1):                               faultOf(api.ErrKind, 0),
		form(0, 0, 1):                               faultOf(api.ErrKind, 0),
		form(-1, 0, -1):                             faultOf(api.ErrKind, 0), // the discriminant is -4
		form(-2, 1, -3):                             faultOf(api.ErrKind, 0),
		form(-small, small, -small):                 faultOf(api.ErrKind, 0),
		form(1, 2, 1):                               faultOf(api.ErrKind, 0), // the discriminant is 0
		form(1, -2, 1):                              faultOf(api.ErrKind, 0),
		form(2, 4, 2):                               faultOf(api.ErrKind, 0), // told ahead of the divisor
		form(1, 0, 0):                               faultOf(api.ErrKind, 0),
		form(1, 3, 2):                               faultOf(api.ErrKind, 0), // the discriminant is 1
		form(1, 0, -1):                              faultOf(api.ErrKind, 0),
		form(1, small, small):                       faultOf(api.ErrKind, 0),
		form(250000, small, small):                  faultOf(api.ErrKind, 0), // the discriminant is 0
		form(250000, small, small-1):                faultOf(api.ErrKind, 0),
		form(2, 0, 2):                               faultOf(api.ErrForm, 0),
		form(2, 2, 2):                               faultOf(api.ErrForm, 0),
		form(3, -3, 3):                              faultOf(api.ErrForm, 0),
		form(6, 9, 12):                              faultOf(api.ErrForm, 0),
		form(999983, 0, 999983):                     faultOf(api.ErrForm, 0), // a prime
		form(999983, 999983, 999983):                faultOf(api.ErrForm, 0),
		form(small, small, small):                   faultOf(api.ErrForm, 0),
		form(small, -small, small):                  faultOf(api.ErrForm, 0),
		form(small, small, 250000+2):                faultOf(api.ErrForm, 0),
	}
}

func TestCheckOfChosenForms(t *testing.T) {
	for f, want := range wrongForms() {
		if got := quad.Check(f); got != want {
			t.Errorf("Check(%v): %v, want %v", f, got, want)
		}
	}
	for _, f := range []api.Form{
		form(1, 0, 1), form(1, 1, 1), form(1, -1, 1), form(2, 1, 3), form(6, 10, 15), form(1, 0, small), form(small, 1, 1), form(small, small, small-1),
		form(small, -small, small-1), form(small-1, -small, small), form(250001, small, small), form(250001, -small, small), form(small, 999999, small), form(12, 23, 12),
	} {
		if got := quad.Check(f); got != none {
			t.Errorf("Check(%v): %v, want nothing", f, got)
		}
	}
}

// checkSame holds the other calls to what Check says of a wrong form: nothing else is answered.
func checkSame(t *testing.T, f api.Form, want api.Fault) {
	t.Helper()
	if g, m, e := quad.Reduce(f); g != (api.Form{}) || m != [4]int{} || e != want {
		t.Errorf("Reduce(%v): %v, %v, %v, want %v", f, g, m, e, want)
	}
	if list, e := quad.Genus(f); len(list) != 0 || e != want {
		t.Errorf("Genus(%v): %v, %v, want %v", f, list, e, want)
	}
	for _, n := range []int{0, 1, small, -1, small + 1, math.MinInt, math.MaxInt} {
		if list, e := quad.Points(f, n); len(list) != 0 || e != want {
			t.Errorf("Points(%v, %d): %v, %v, want %v", f, n, list, e, want)
		}
	}
	for _, g := range []api.Form{form(1, 0, 1), form(2, 1, 3), form(1, 0, small)} {
		for _, both := range [][2]api.Form{{f, g}, {g, f}} {
			if h, e := quad.Compose(both[0], both[1]); h != (api.Form{}) || e != want {
				t.Errorf("Compose(%v): %v, %v, want %v", both, h, e, want)
			}
		}
	}
}

func TestAllTellWhatCheckSays(t *testing.T) {
	for f, want := range wrongForms() {
		checkSame(t, f, want)
		// Of two that are wrong, the first one is told.
		for g := range wrongForms() {
			if h, e := quad.Compose(f, g); h != (api.Form{}) || e != want {
				t.Errorf("Compose(%v, %v): %v, %v, want %v", f, g, h, e, want)
			}
		}
	}
}

// TestWildForms: P1. All edges stand in each place.
func TestWildForms(t *testing.T) {
	edges := append(sample.Edges(), -small-1, -small, small, small+1)
	for _, a := range edges {
		for _, b := range edges {
			for _, c := range edges {
				f := form(a, b, c)
				want := wrong(f)
				if got := quad.Check(f); got != want {
					t.Fatalf("Check(%v): %v, want %v", f, got, want)
				}
				if want != none {
					checkSame(t, f, want)
				}
			}
		}
	}
}
