package frac_test

import (
	"testing"

	"arithmetica/api"
	"arithmetica/frac"
)

// leastAbove goes through all Downs up to n.
func leastAbove(x api.Frac, n int) api.Frac {
	var least api.Frac
	for down := 1; down <= n; down++ {
		up := x.Up * down / x.Down
		for up*x.Down <= x.Up*down {
			up++
		}
		// Of two that are the same, the first is in lowest terms.
		if try := fraction(up, down); down == 1 || isLess(try, least) {
			least = try
		}
	}
	return least
}

func checkNext(t *testing.T, x api.Frac, n int) {
	t.Helper()
	got, f := frac.Next(x, n)
	if want := leastAbove(x, n); got != want || f != none {
		t.Errorf("Next(%v, %d): %v, %v, want %v", x, n, got, f, want)
	}
	checkAnswer(t, got)
}

func TestNextAgainstAllFractions(t *testing.T) {
	for _, x := range right(-25, 25, 12) {
		for n := x.Down; n <= 30; n++ {
			checkNext(t, x, n)
		}
	}
}

// TestNextOfGreatFractions: up to the bounds of Up and n, with n just at Down, and about twice of it.
func TestNextOfGreatFractions(t *testing.T) {
	for _, x := range []api.Frac{
		{Up: small, Down: 1}, {Up: -small, Down: 1}, {Up: small - 1, Down: 1}, {Up: 0, Down: 1}, {Up: 1, Down: 2}, {Up: small, Down: 3}, {Up: -small, Down: 7},
		{Up: 1, Down: 1000}, {Up: -1, Down: 1000}, {Up: 1, Down: small}, {Up: -1, Down: small}, {Up: small, Down: small - 1}, {Up: -small, Down: small - 1}, {Up: small - 1, Down: small}, {Up: 1 - small, Down: small},
		{Up: 618033, Down: 999998}, {Up: -618033, Down: 999998}, {Up: 499999, Down: small}, {Up: 514229, Down: 317811}, {Up: -514229, Down: 832040}, {Up: small, Down: 499999}, {Up: -small, Down: 333331},
	} {
		for _, n := range []int{x.Down, x.Down + 1, 2*x.Down - 1, 2 * x.Down, 1000, 99991, 720720, small - 1, small} {
			if x.Down <= n && n <= small {
				checkNext(t, x, n)
			}
		}
	}
}

// TestNextGoesAlongARow: also below 0 and above 1, as whole numbers move a row.
func TestNextGoesAlongARow(t *testing.T) {
	for n := 1; n <= 50; n++ {
		row, _ := frac.Row(n)
		for _, moved := range []int{-1000, -2, -1, 0, 1, 2, 19999} {
			for i, x := range row[1:] {
				got, f := frac.Next(fraction(row[i].Up+moved*row[i].Down, row[i].Down), n)
				if want := fraction(x.Up+moved*x.Down, x.Down); got != want || f != none {
					t.Fatalf("Next of %v and %d, up to %d: %v, %v, want %v", row[i], moved, n, got, f, want)
				}
			}
		}
	}
}

func TestNextOfChosenFractions(t *testing.T) {
	for _, c := range []struct {
		x    api.Frac
		n    int
		want api.Frac
	}{
		{fraction(1, 3), 5, fraction(2, 5)}, {fraction(0, 1), 1, fraction(1, 1)}, {fraction(0, 1), 7, fraction(1, 7)}, {fraction(1, 1), 5, fraction(6, 5)}, {fraction(-1, 1), 1, fraction(0, 1)},
		{fraction(-1, 3), 3, fraction(0, 1)}, {fraction(-1, 3), 4, fraction(-1, 4)}, {fraction(-1, 2), 3, fraction(-1, 3)}, {fraction(-7, 2), 5, fraction(-17, 5)}, {fraction(49, 50), 50, fraction(1, 1)},
		{fraction(small, 1), small, fraction(small*small+1, small)}, {fraction(-small, 1), small, fraction(1-small*small, small)}, {fraction(small, 1), 1, fraction(small+1, 1)},
		{fraction(0, 1), small, fraction(1, small)}, {fraction(-1, small), small, fraction(0, 1)}, {fraction(small-1, small), small, fraction(1, 1)},
	} {
		if got, f := frac.Next(c.x, c.n); got != c.want || f != none {
			t.Errorf("Next(%v, %d): %v, %v, want %v", c.x, c.n, got, f, c.want)
		}
	}
}

func wrongNext(x api.Frac, n int) api.Fault {
	if f := wrong(x); f != none {
		return f
	}
	if n < x.Down || n > small {
		return faultOf(api.ErrRange, 1)
	}
	if size(x.Up) > small {
		return faultOf(api.ErrMuch, 0)
	}
	return none
}

func TestNextTellsItsFaultsInOrder(t *testing.T) {
	outcomes := map[api.Fault]int{}
	for _, x := range pairs() {
		for _, n := range append(edges(), x.Down-1, x.Down) {
			want := wrongNext(x, n)
			got, f := frac.Next(x, n)
			if f != want || f != none && got != (api.Frac{}) {
				t.Errorf("Next(%v, %d): %v, %v, want %v", x, n, got, f, want)
			}
			if f == none && (!isLess(x, got) || got.Down > n) {
				t.Errorf("Next(%v, %d): %v", x, n, got)
			}
			outcomes[f]++
		}
	}
	checkOutcomes(t, outcomes, none, faultOf(api.ErrRange, 0), faultOf(api.ErrForm, 0), faultOf(api.ErrRange, 1), faultOf(api.ErrMuch, 0))
}

func TestNextOfChosenFaults(t *testing.T) {
	for _, c := range []struct {
		x        api.Frac
		n        int
		code, at int
	}{
		{fraction(top+1, 1), 5, api.ErrRange, 0}, {fraction(1, top+1), 5, api.ErrRange, 0}, {fraction(-top-1, 0), 0, api.ErrRange, 0}, {fraction(0, -top-1), 5, api.ErrRange, 0},
		{fraction(2, 4), 5, api.ErrForm, 0}, {fraction(0, 2), 5, api.ErrForm, 0}, {fraction(1, 0), 5, api.ErrForm, 0}, {fraction(1, -2), 5, api.ErrForm, 0}, {fraction(0, 0), 0, api.ErrForm, 0}, {fraction(top, -top), 0, api.ErrForm, 0},
		{fraction(2, 4), 3, api.ErrForm, 0}, {fraction(top, 5), 1, api.ErrForm, 0},
		{fraction(1, 3), 2, api.ErrRange, 1}, {fraction(1, 3), small + 1, api.ErrRange, 1}, {fraction(1, 3), 0, api.ErrRange, 1}, {fraction(1, 3), -3, api.ErrRange, 1}, {fraction(0, 1), 0, api.ErrRange, 1},
		{fraction(1, small+1), small, api.ErrRange, 1}, {fraction(1, small+1), small + 1, api.ErrRange, 1}, {fraction(1, top), top, api.ErrRange, 1}, {fraction(top, 1), 0, api.ErrRange, 1}, {fraction(top, 1), small + 1, api.ErrRange, 1},
		{fraction(small+1, 1), 1, api.ErrMuch, 0}, {fraction(-small-1, 1), small, api.ErrMuch, 0}, {fraction(top, 1), small, api.ErrMuch, 0}, {fraction(-top, 3), 3, api.ErrMuch, 0}, {fraction(small+1, small), small, api.ErrMuch, 0},
	} {
		if got, f := frac.Next(c.x, c.n); got != (api.Frac{}) || f != faultOf(c.code, c.at) {
			t.Errorf("Next(%v, %d): %v, %v, want %d at %d", c.x, c.n, got, f, c.code, c.at)
		}
	}
}
