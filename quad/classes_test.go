package quad_test

import (
	"cmp"
	"math"
	"math/big"
	"slices"
	"testing"

	"arithmetica/api"
	"arithmetica/quad"
	"arithmetica/sample"
)

// isDiscriminant tells whether d, which is below 0, leaves 0 or 1 by 4.
func isDiscriminant(d int) bool { return -d%4 == 0 || -d%4 == 3 }

// triedClasses answers by each discriminant from least on all reduced forms without a common divisor, in Classes's order: none has an A C above a third of the discriminant's size.
func triedClasses(least int) map[int][]api.Form {
	tried := map[int][]api.Form{}
	for a := 1; 3*a*a <= -least; a++ {
		for b := -a; b <= a; b++ {
			for c := 1; 3*a*c <= -least; c++ {
				f := form(a, b, c)
				if d := discriminant(f); isReduced(f) && d >= least && gcd(a, b, c) == 1 {
					tried[d] = append(tried[d], f)
				}
			}
		}
	}
	return tried
}

func TestClassesByTryingAll(t *testing.T) {
	const least = -3000
	tried := triedClasses(least)
	for d := -1; d >= least; d-- {
		wantFault := none
		if !isDiscriminant(d) {
			wantFault = faultOf(api.ErrKind, 0)
		}
		if list, e := quad.Classes(d); !slices.Equal(list, tried[d]) || e != wantFault {
			t.Errorf("Classes(%d): %v, %v, want %v, %v", d, list, e, tried[d], wantFault)
		}
	}
}

// character is Kronecker's symbol of d, a discriminant, and n above 0.
func character(d, n int) int {
	answer := 1
	for n%2 == 0 {
		switch {
		case d%2 == 0:
			return 0
		case -d%8 == 3: // d leaves 5 by 8
			answer = -answer
		}
		n /= 2
	}
	return answer * big.Jacobi(large(d), large(n))
}

// isFundamental tells whether d is no discriminant times a square above 1.
func isFundamental(d int) bool {
	for k := 2; k*k <= -d; k++ {
		if d%(k*k) == 0 && isDiscriminant(d/(k*k)) {
			return false
		}
	}
	return true
}

// countFundamental answers by Dirichlet how many classes there are of d, which is fundamental.
func countFundamental(d int) int {
	if d >= -4 {
		return 1
	}
	total := 0
	for k := 1; 2*k < -d; k++ {
		total += character(d, k)
	}
	return total / (2 - character(d, 2))
}

// count answers by Dirichlet and Gauss how many classes there are of d: with d = k^2 e, e fundamental, each prime p in k takes so many away as it has no character by e, and of -3 and -4 units are lost.
func count(d int) int {
	k := 1
	for side := 1; side*side <= -d; side++ {
		if d%(side*side) == 0 && isDiscriminant(d/(side*side)) {
			k = side
		}
	}
	e := d / (k * k)
	answer := countFundamental(e) * k
	for p := 2; p <= k; p++ {
		if k%p == 0 && large(p).ProbablyPrime(0) {
			answer = answer / p * (p - character(e, p))
		}
	}
	switch {
	case k == 1:
		return answer
	case e == -3:
		return answer / 3
	case e == -4:
		return answer / 2
	}
	return answer
}

// checkClasses holds P8.3 where all cannot be tried: fine forms in their order, no two the same, and as many as there are.
func checkClasses(t *testing.T, d int) {
	t.Helper()
	list, e := quad.Classes(d)
	if want := count(d); e != none || len(list) != want || want > api.MaxList {
		t.Errorf("Classes(%d): %d, %v, want %d", d, len(list), e, want)
	}
	for i, f := range list {
		if !isReduced(f) || discriminant(f) != d || wrong(f) != none {
			t.Errorf("Classes(%d): %v", d, f)
		}
		if i > 0 && cmp.Or(cmp.Compare(list[i-1].A, f.A), cmp.Compare(list[i-1].B, f.B)) >= 0 {
			t.Errorf("Classes(%d): %v, %v", d, list[i-1], f)
		}
	}
}

func TestClassesAreAsManyAsDirichletCounts(t *testing.T) {
	for d := -3; d > -600; d-- {
		if isDiscriminant(d) {
			checkClasses(t, d)
		}
	}
	for _, d := range []int{
		-10000, -9999, -44100, -65536, -65535, -99999, -123456, -131072, -163 * 30 * 30, -3 * 250 * 250, -4 * 220 * 220, -199559, // the most of all
		-199995, -199996, -199999, -200000,
	} {
		checkClasses(t, d)
	}
}

// TestClassesOfAllThatAreLike: each form that is fine is like one of them.
func TestClassesOfAllThatAreLike(t *testing.T) {
	seen := map[api.Form]int{}
	for _, f := range fine(formsWithin(15)) {
		list, e := quad.Classes(discriminant(f))
		g, _, _ := quad.Reduce(f)
		if !slices.Contains(list, g) || e != none {
			t.Fatalf("Classes(%d): %v, %v, without %v", discriminant(f), list, e, g)
		}
		seen[g]++
	}
	if len(seen) < 1000 {
		t.Errorf("only %d classes were tried", len(seen))
	}
}

func TestClassesOfChosenDiscriminants(t *testing.T) {
	for d, want := range map[int][]api.Form{
		-3:   {form(1, 1, 1)},
		-4:   {form(1, 0, 1)},
		-7:   {form(1, 1, 2)},
		-8:   {form(1, 0, 2)},
		-12:  {form(1, 0, 3)}, // without 2, 2, 2
		-15:  {form(1, 1, 4), form(2, 1, 2)},
		-16:  {form(1, 0, 4)},
		-20:  {form(1, 0, 5), form(2, 2, 3)},
		-23:  {form(1, 1, 6), form(2, -1, 3), form(2, 1, 3)},
		-27:  {form(1, 1, 7)},
		-36:  {form(1, 0, 9), form(2, 2, 5)},
		-44:  {form(1, 0, 11), form(3, -2, 4), form(3, 2, 4)},
		-47:  {form(1, 1, 12), form(2, -1, 6), form(2, 1, 6), form(3, -1, 4), form(3, 1, 4)},
		-75:  {form(1, 1, 19), form(3, 3, 7)},
		-84:  {form(1, 0, 21), form(2, 2, 11), form(3, 0, 7), form(5, 4, 5)},
		-163: {form(1, 1, 41)},
	} {
		if list, e := quad.Classes(d); !slices.Equal(list, want) || e != none {
			t.Errorf("Classes(%d): %v, %v, want %v", d, list, e, want)
		}
	}
	for d, want := range map[int]int{-71: 7, -199559: 777, -199995: 96, -199996: 183, -199999: 185, -200000: 200} {
		if list, e := quad.Classes(d); len(list) != want || e != none {
			t.Errorf("Classes(%d): %d, %v, want %d", d, len(list), e, want)
		}
	}
}

func TestClassesOfWrongDiscriminants(t *testing.T) {
	for d, want := range map[int]int{
		0: api.ErrRange, 1: api.ErrRange, 2: api.ErrRange, 4: api.ErrRange, 5: api.ErrRange, 200000: api.ErrRange, -200001: api.ErrRange, -200003: api.ErrRange, -200004: api.ErrRange,
		math.MinInt: api.ErrRange, math.MaxInt: api.ErrRange, -1: api.ErrKind, -2: api.ErrKind, -5: api.ErrKind, -6: api.ErrKind, -199997: api.ErrKind, -199998: api.ErrKind,
	} {
		if list, e := quad.Classes(d); len(list) != 0 || e != faultOf(want, 0) {
			t.Errorf("Classes(%d): %v, %v, want the code %d at 0", d, list, e, want)
		}
	}
	for _, d := range sample.Edges() {
		list, e := quad.Classes(d)
		if isWithin := d < 0 && d >= -200000; !isWithin && (len(list) != 0 || e != faultOf(api.ErrRange, 0)) {
			t.Errorf("Classes(%d): %v, %v", d, list, e)
		}
	}
}
