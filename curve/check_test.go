package curve_test

import (
	"math"
	"slices"
	"testing"

	"arithmetica/api"
	"arithmetica/curve"
	"arithmetica/sample"
)

// wantCheck is P14.1, sentence by sentence.
func wantCheck(p, a, b int) api.Fault {
	switch {
	case p < 5 || p > 2000:
		return faultOf(api.ErrRange, 0)
	case !isPrime(p):
		return faultOf(api.ErrKind, 0)
	case a < 0 || a > p-1:
		return faultOf(api.ErrRange, 1)
	case b < 0 || b > p-1:
		return faultOf(api.ErrRange, 2)
	case !triple{p, a, b}.isBent():
		return faultOf(api.ErrForm, 0)
	}
	return none
}

// wantFault is what is told of a curve and of the points that are handed in with it.
func wantFault(p, a, b int, points ...api.Point) api.Fault {
	if f := wantCheck(p, a, b); f != none {
		return f
	}
	for i, q := range points {
		if !(triple{p, a, b}).has(q) {
			return faultOf(api.ErrFalse, 3+i)
		}
	}
	return none
}

// checkFaults holds all calls against what they must tell; with a fault, all else is zero.
func checkFaults(t *testing.T, p, a, b, n int, q, r api.Point) (outcomes [6]api.Fault) {
	t.Helper()
	var zero api.Point
	ofCurve, ofOne, ofTwo := wantFault(p, a, b), wantFault(p, a, b, q), wantFault(p, a, b, q, r)
	ofTimes := ofOne
	if ofTimes == none && (n > top || n < -top) {
		ofTimes = faultOf(api.ErrRange, 4)
	}
	if f := curve.Check(p, a, b); f != ofCurve {
		t.Fatalf("Check(%d, %d, %d): %v, want %v", p, a, b, f, ofCurve)
	}
	if list, f := curve.Points(p, a, b); f != ofCurve || (len(list) == 0) != (f != none) {
		t.Fatalf("Points(%d, %d, %d): %v, %v, want %v", p, a, b, list, f, ofCurve)
	}
	if sum, f := curve.Add(p, a, b, q, r); f != ofTwo || f != none && sum != zero {
		t.Fatalf("Add(%d, %d, %d, %v, %v): %v, %v, want %v", p, a, b, q, r, sum, f, ofTwo)
	}
	if sum, f := curve.Times(p, a, b, n, q); f != ofTimes || f != none && sum != zero {
		t.Fatalf("Times(%d, %d, %d, %d, %v): %v, %v, want %v", p, a, b, n, q, sum, f, ofTimes)
	}
	if order, f := curve.Order(p, a, b, q); f != ofOne || (order == 0) != (f != none) {
		t.Fatalf("Order(%d, %d, %d, %v): %d, %v, want %v", p, a, b, q, order, f, ofOne)
	}
	if n1, n2, f := curve.Shape(p, a, b); f != ofCurve || (n1 == 0) != (f != none) || (n2 == 0) != (f != none) {
		t.Fatalf("Shape(%d, %d, %d): %d, %d, %v, want %v", p, a, b, n1, n2, f, ofCurve)
	}
	return [6]api.Fault{ofCurve, ofCurve, ofTwo, ofTimes, ofOne, ofCurve}
}

func TestCheckOfSmallNumbers(t *testing.T) {
	for p := -3; p <= 53; p++ {
		for a := -3; a <= p+3; a++ {
			for b := -3; b <= p+3; b++ {
				if f, want := curve.Check(p, a, b), wantCheck(p, a, b); f != want {
					t.Fatalf("Check(%d, %d, %d): %v, want %v", p, a, b, f, want)
				}
			}
		}
	}
}

func TestCheckOfAllPrimesAndOtherNumbers(t *testing.T) {
	for p := -20; p <= 2100; p++ {
		for _, a := range []int{-1, 0, 1, p - 3, p - 1, p, p + 1} {
			for _, b := range []int{-1, 0, 1, 2, p - 2, p - 1, p, p + 1} {
				if f, want := curve.Check(p, a, b), wantCheck(p, a, b); f != want {
					t.Fatalf("Check(%d, %d, %d): %v, want %v", p, a, b, f, want)
				}
			}
		}
	}
}

// TestCheckOfRootsThatAreThereTwice: X^3 + a X + b is (X - n)^2 (X + 2 n) just where a is -3 n^2 and b is 2 n^3.
func TestCheckOfRootsThatAreThereTwice(t *testing.T) {
	for _, p := range []int{5, 7, 997, 1993, 1997, greatest} {
		for n := range p {
			a, b := rest(-3*n*n, p), rest(2*n*n*n, p)
			if f := curve.Check(p, a, b); f != faultOf(api.ErrForm, 0) {
				t.Fatalf("Check(%d, %d, %d): %v, want ErrForm at 0", p, a, b, f)
			}
			for _, other := range []int{rest(b+1, p), rest(b-1, p)} {
				if f, want := curve.Check(p, a, other), wantCheck(p, a, other); f != want {
					t.Fatalf("Check(%d, %d, %d): %v, want %v", p, a, other, f, want)
				}
			}
		}
	}
}

func TestCheckOfChosenNumbers(t *testing.T) {
	for _, c := range []struct {
		p, a, b int
		want    api.Fault
	}{
		{5, 1, 1, none},
		{5, 0, 0, faultOf(6, 0)},
		{5, 2, 2, faultOf(6, 0)},
		{5, 4, 4, none},
		{5, 0, 4, none},
		{5, 4, 0, none},
		{4, 1, 1, faultOf(3, 0)},
		{3, 1, 1, faultOf(3, 0)},
		{2, 1, 1, faultOf(3, 0)},
		{1, 0, 0, faultOf(3, 0)},
		{0, 0, 0, faultOf(3, 0)},
		{-5, 0, 0, faultOf(3, 0)},
		{-7, 1, 1, faultOf(3, 0)},
		{6, 1, 1, faultOf(7, 0)},
		{9, 1, 1, faultOf(7, 0)},
		{25, 1, 1, faultOf(7, 0)},
		{561, 1, 1, faultOf(7, 0)},
		{1763, 1, 1, faultOf(7, 0)},
		{1999, 1, 1, none},
		{1999, 0, 1998, none},
		{1999, 1998, 0, none},
		{1999, 1996, 2, faultOf(6, 0)},
		{1999, 1996, 1997, faultOf(6, 0)},
		{2000, 1, 1, faultOf(7, 0)},
		{2001, 1, 1, faultOf(3, 0)},
		{2003, 1, 1, faultOf(3, 0)},
		{math.MaxInt, 1, 1, faultOf(3, 0)},
		{math.MinInt, 1, 1, faultOf(3, 0)},
		{9, 9, 9, faultOf(7, 0)},
		{9, -1, -1, faultOf(7, 0)},
		{3, -1, 3, faultOf(3, 0)},
		{7, 7, 7, faultOf(3, 1)},
		{7, -1, 7, faultOf(3, 1)},
		{7, 7, -1, faultOf(3, 1)},
		{7, 7, 0, faultOf(3, 1)},
		{7, 0, 7, faultOf(3, 2)},
		{7, 0, -7, faultOf(3, 2)},
		{7, 6, 8, faultOf(3, 2)},
		{7, math.MinInt, math.MaxInt, faultOf(3, 1)},
		{7, 0, math.MinInt, faultOf(3, 2)},
		{7, 0, math.MaxInt, faultOf(3, 2)},
	} {
		if f := curve.Check(c.p, c.a, c.b); f != c.want || wantCheck(c.p, c.a, c.b) != c.want {
			t.Errorf("Check(%d, %d, %d): %v, want %v", c.p, c.a, c.b, f, c.want)
		}
	}
}

// TestAllTellTheFaultsInOrder: each kind of wrong p, a, b, points and n beside each other one.
func TestAllTellTheFaultsInOrder(t *testing.T) {
	outcomes := map[api.Fault]int{}
	for _, p := range []int{math.MinInt, -5, 0, 4, 5, 7, 9, greatest, 2000, 2001, 2003, top + 1, math.MaxInt} {
		edges := []int{math.MinInt, -p, -1, 0, 2, p - 1, p, top + 1}
		for _, a := range edges {
			for _, b := range append(edges, 3) {
				for _, q := range []api.Point{far, {}, at(2, 3), at(0, p), at(-1, 0), {X: 1, Far: true}, {Y: 1, Far: true}, at(math.MinInt, math.MaxInt)} {
					for _, r := range []api.Point{far, {}, at(1, p), {X: -1, Y: 1, Far: true}} {
						for _, n := range []int{math.MinInt, -top - 1, -top, 0, top, top + 1, math.MaxInt} {
							// Shape of the greatest prime takes longer; its curves are met with fewer others.
							if p == greatest && (n == 0 || n < -top-1 || r == api.Point{}) {
								continue
							}
							for _, f := range checkFaults(t, p, a, b, n, q, r) {
								outcomes[f]++
							}
						}
					}
				}
			}
		}
	}
	for _, f := range []api.Fault{
		none, faultOf(api.ErrRange, 0), faultOf(api.ErrKind, 0), faultOf(api.ErrRange, 1), faultOf(api.ErrRange, 2), faultOf(api.ErrForm, 0),
		faultOf(api.ErrFalse, 3), faultOf(api.ErrFalse, 4), faultOf(api.ErrRange, 4),
	} {
		if outcomes[f] == 0 {
			t.Errorf("%v was not met: %v", f, outcomes)
		}
		delete(outcomes, f)
	}
	if len(outcomes) > 0 {
		t.Errorf("these are none of the chapter: %v", outcomes)
	}
}

// near answers all points with an X and a Y from -2 to p + 1, those of the curve and others, Far and not.
func near(p int) []api.Point {
	var list []api.Point
	for x := -2; x <= p+1; x++ {
		for y := -2; y <= p+1; y++ {
			list = append(list, at(x, y), api.Point{X: x, Y: y, Far: true})
		}
	}
	return list
}

// TestPointsThatAreNoneOfTheCurve: each such point, as the first, as the second, and as both.
func TestPointsThatAreNoneOfTheCurve(t *testing.T) {
	for _, c := range smallCurves(7) {
		on := c.tried()
		for _, q := range near(c.p) {
			for _, r := range []api.Point{q, far, on[1]} {
				checkFaults(t, c.p, c.a, c.b, 3, q, r)
				checkFaults(t, c.p, c.a, c.b, top+1, r, q)
			}
		}
	}
	for _, c := range smallCurves(19) {
		for _, q := range near(c.p) {
			want := wantFault(c.p, c.a, c.b, q)
			if _, f := curve.Order(c.p, c.a, c.b, q); f != want {
				t.Fatalf("Order of %v and %v: %v, want %v", c, q, f, want)
			}
		}
	}
}

// TestPointsThatAreNoneOfAGreatCurve: what leaves the same as a point of the curve, or is beside one, is none.
func TestPointsThatAreNoneOfAGreatCurve(t *testing.T) {
	s := sample.NewStream()
	for _, c := range greatCurves(10) {
		for _, q := range picked(s, c, pointsOf(t, c), 3)[1:] {
			list := []api.Point{
				at(q.X+c.p, q.Y), at(q.X-c.p, q.Y), at(q.X, q.Y+c.p), at(q.X, q.Y-c.p), at(q.X+c.p, q.Y+c.p), at(q.X, -q.Y), at(q.X, q.Y+1), at(q.X+1, q.Y),
				{X: q.X, Y: q.Y, Far: true}, {X: c.p, Far: true}, {Y: -c.p, Far: true}, at(c.p, 0), at(0, c.p),
			}
			for _, wrong := range slices.DeleteFunc(list, c.has) {
				for i, call := range []func() (api.Point, api.Fault){
					func() (api.Point, api.Fault) { return curve.Add(c.p, c.a, c.b, wrong, wrong) },
					func() (api.Point, api.Fault) { return curve.Add(c.p, c.a, c.b, q, wrong) },
					func() (api.Point, api.Fault) { return curve.Add(c.p, c.a, c.b, wrong, q) },
					func() (api.Point, api.Fault) { return curve.Times(c.p, c.a, c.b, 0, wrong) },
					func() (api.Point, api.Fault) { return curve.Times(c.p, c.a, c.b, top+1, wrong) },
				} {
					want := faultOf(api.ErrFalse, []int{3, 4, 3, 3, 3}[i])
					if got, f := call(); got != (api.Point{}) || f != want {
						t.Fatalf("call %d of %v with %v and %v: %v, %v, want %v", i, c, q, wrong, got, f, want)
					}
				}
			}
		}
	}
}

// TestEdgesOfAllNumbers: no call panics, and what is told is right, at the edges of an int, too.
func TestEdgesOfAllNumbers(t *testing.T) {
	edges := sample.Edges()
	for _, p := range edges {
		for _, a := range edges {
			for _, b := range edges {
				if f, want := curve.Check(p, a, b), wantCheck(p, a, b); f != want {
					t.Fatalf("Check(%d, %d, %d): %v, want %v", p, a, b, f, want)
				}
			}
		}
	}
	for _, p := range []int{5, 59, 61, greatest} {
		for _, x := range append(edges, p-1, p) {
			for _, y := range append(edges, p-1, p) {
				q := at(x, y)
				if sum, f := curve.Add(p, 1, 1, q, q); f != wantFault(p, 1, 1, q, q) || f == none && sum != chordsOf(triple{p, 1, 1}).sum(q, q) {
					t.Fatalf("Add(%d, 1, 1) of %v twice: %v, %v", p, q, sum, f)
				}
			}
		}
		for _, n := range edges {
			_, f := curve.Times(p, 1, 1, n, at(0, 1))
			if (f != none) != (n < -top || n > top) || f != none && f != faultOf(api.ErrRange, 4) {
				t.Fatalf("Times(%d, 1, 1, %d, 0 1): %v", p, n, f)
			}
		}
	}
}
