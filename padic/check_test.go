package padic_test

import (
	"testing"

	"arithmetica/api"
	"arithmetica/padic"
)

// calls answers what each call says of p and k, with other arguments of which nothing is wrong.
func calls(p, k int) map[string]api.Fault {
	line := []int{0, 1}
	_, ofDigits := padic.Digits(p, k, 1, 1)
	_, ofLift := padic.Lift(p, k, line, 0)
	_, ofRoots := padic.Roots(p, k, line)
	_, ofTeich := padic.Teich(p, k, 0)
	return map[string]api.Fault{"Digits": ofDigits, "Lift": ofLift, "Roots": ofRoots, "Teich": ofTeich}
}

// checkCalls holds what each call says of p and k against want; Roots has a bound of its own.
func checkCalls(t *testing.T, p, k int, want api.Fault) {
	t.Helper()
	for name, f := range calls(p, k) {
		wanted := want
		if name == "Roots" && want == none && p > tiny {
			wanted = faultOf(api.ErrMany, 0)
		}
		if f != wanted {
			t.Fatalf("%s by %d, %d times: %v, want %v", name, p, k, f, wanted)
		}
	}
}

// sieved tells which numbers up to most are primes.
func sieved(most int) []bool {
	is := make([]bool, most+1)
	for n := 2; n <= most; n++ {
		is[n] = true
	}
	for d := 2; d*d <= most; d++ {
		for n := d * d; n <= most; n += d {
			is[n] = false
		}
	}
	return is
}

// TestPrimesAlone: all numbers up to MaxSmall and beyond stand as p.
func TestPrimesAlone(t *testing.T) {
	is := sieved(small)
	for p := -100; p <= small+100; p++ {
		want := none
		if p < 2 || p > small {
			want = faultOf(api.ErrRange, 0)
		} else if !is[p] {
			want = faultOf(api.ErrKind, 0)
		}
		if _, f := padic.Teich(p, 1, 0); f != want {
			t.Fatalf("Teich(%d, 1, 0): %v, want %v", p, f, want)
		}
		if p < 3000 || p > small-3000 {
			checkCalls(t, p, 1, want)
			checkCalls(t, p, 3, wrongPower(p, 3))
		}
	}
}

// TestPowersUpToMaxNum: of each k the greatest prime whose power is a number, and the next one.
func TestPowersUpToMaxNum(t *testing.T) {
	primes := primesUpTo(40000)
	for k := -1; k <= 62; k++ {
		for _, p := range append(primes[:500:500], primes[3390:3410]...) {
			checkCalls(t, p, k, wrongPower(p, k))
		}
		checkCalls(t, 999983, k, wrongPower(999983, k))
	}
	for _, c := range []struct{ p, k int }{
		{999983, 3}, {31607, 4}, {3967, 5}, {997, 6}, {367, 7}, {173, 8}, {97, 9}, {61, 10}, {43, 11}, {31, 12}, {23, 13}, {19, 14}, {13, 16}, {11, 17}, {7, 21}, {5, 25}, {3, 37}, {2, 59},
	} {
		checkCalls(t, c.p, c.k, none)
		checkCalls(t, c.p, c.k+1, faultOf(api.ErrMuch, 1))
	}
	for _, c := range []struct{ p, k int }{{31627, 4}, {3989, 5}, {1009, 6}, {373, 7}, {179, 8}, {101, 9}, {67, 10}, {47, 11}, {3, 38}, {2, 60}, {3, 60}, {999983, 60}} {
		checkCalls(t, c.p, c.k, faultOf(api.ErrMuch, 1))
	}
}
