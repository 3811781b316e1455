package quad_test

import (
	"slices"
	"testing"

	"arithmetica/api"
	"arithmetica/quad"
)

// triedGenus goes through all x and y by D.
func triedGenus(f api.Form) []int {
	size := -discriminant(f)
	met := make([]int, size)
	// As values are only asked for by D, the form may be made less by it.
	f = form(f.A%size, f.B%size, f.C%size)
	for x := range size {
		for y := range size {
			met[((value(f, x, y)%size)+size)%size]++
		}
	}
	var list []int
	for n, times := range met {
		if times > 0 && gcd(n, size) == 1 {
			list = append(list, n)
		}
	}
	return list
}

func checkGenus(t *testing.T, f api.Form) {
	t.Helper()
	if list, e := quad.Genus(f); !slices.Equal(list, triedGenus(f)) || e != none {
		t.Errorf("Genus(%v): %v, %v, want %v", f, list, e, triedGenus(f))
	}
}

func TestGenusByTryingAllValues(t *testing.T) {
	for d := -3; d > -320; d-- {
		list, _ := quad.Classes(d)
		for _, f := range list {
			checkGenus(t, f)
		}
	}
	for _, f := range fine(formsWithin(6)) {
		checkGenus(t, f)
	}
}

func TestGenusOfTheGreatestDiscriminants(t *testing.T) {
	for _, d := range []int{-1155, -1540, -1680, -1848, -1995, -1996, -1999, -2000} {
		list, e := quad.Classes(d)
		for i, f := range list {
			if i < 6 {
				checkGenus(t, f)
			}
		}
		if len(list) == 0 || e != none {
			t.Errorf("%d was not tried", d)
		}
	}
}

// TestGenusOfAllThatAreLike: forms that are not reduced, up to MaxSmall, have the Genus of those that are like them.
func TestGenusOfAllThatAreLike(t *testing.T) {
	for _, d := range []int{-3, -4, -20, -60, -84, -231, -420, -1155, -2000} {
		list, _ := quad.Classes(d)
		for _, g := range list {
			want, _ := quad.Genus(g)
			for _, m := range farTurns() {
				f := turn(g, m)
				if wrong(f) != none { // beyond MaxSmall
					continue
				}
				if got, e := quad.Genus(f); !slices.Equal(got, want) || e != none {
					t.Fatalf("Genus(%v): %v, %v, want %v", f, got, e, want)
				}
			}
		}
	}
}

// TestDuplication is Gauss's theorem: what is composed of a form with itself has the Genus of the form of 1, and nothing else has.
func TestDuplication(t *testing.T) {
	check := func(d int) {
		list, _ := quad.Classes(d)
		chief, _ := quad.Genus(formOfOne(d))
		doubled := map[api.Form]int{}
		for _, f := range list {
			doubled[compose(t, f, f)]++
		}
		for _, f := range list {
			genus, e := quad.Genus(f)
			if slices.Equal(genus, chief) != (doubled[f] > 0) || e != none {
				t.Errorf("Genus(%v): %v, %v, and that of 1 is %v", f, genus, e, chief)
			}
		}
	}
	for d := -3; d > -700; d-- {
		if isDiscriminant(d) {
			check(d)
		}
	}
	for _, d := range []int{-1155, -1220, -1280, -1344, -1428, -1596, -1600, -1792, -1840, -1995, -1999, -2000} {
		check(d)
	}
}

func TestGenusOfChosenForms(t *testing.T) {
	for _, c := range []struct {
		f    api.Form
		want []int
	}{
		{form(1, 0, 5), []int{1, 9}},
		{form(2, 2, 3), []int{3, 7}},
		{form(1, 1, 1), []int{1}},
		{form(1, 0, 1), []int{1}},
		{form(1, 0, 2), []int{1, 3}},
		{form(1, 1, 2), []int{1, 2, 4}},
		{form(1, 0, 3), []int{1, 7}},
		{form(1, 1, 4), []int{1, 4}},
		{form(2, 1, 2), []int{2, 8}},
		{form(1, 0, 21), []int{1, 25, 37}},
		{form(2, 2, 11), []int{11, 23, 71}},
		{form(3, 0, 7), []int{19, 31, 55}},
		{form(5, 4, 5), []int{5, 17, 41}},
		{form(514229, 635622, 196418), []int{1}},
	} {
		if list, e := quad.Genus(c.f); !slices.Equal(list, c.want) || e != none {
			t.Errorf("Genus(%v): %v, %v, want %v", c.f, list, e, c.want)
		}
	}
}

func TestGenusTurnsAtMaxTiny(t *testing.T) {
	for _, c := range []struct {
		f    api.Form
		want api.Fault
	}{
		{form(1, 1, 500), none},                          // 1999
		{form(1, 0, 500), none},                          // 2000
		{form(3, 2, 167), none},                          // 2000
		{form(1, 1998, 998501), none},                    // 2000
		{form(1, 1, 501), faultOf(api.ErrMany, 0)},       // 2003
		{form(1, 0, 501), faultOf(api.ErrMany, 0)},       // 2004
		{form(1, 1998, 998502), faultOf(api.ErrMany, 0)}, // 2004
		{form(small, 1, small), faultOf(api.ErrMany, 0)},
		{form(1, 0, small), faultOf(api.ErrMany, 0)},
		{form(small, small, small-1), faultOf(api.ErrMany, 0)},
	} {
		if list, e := quad.Genus(c.f); e != c.want || (len(list) == 0) != (e != none) {
			t.Errorf("Genus(%v): %v, %v, want %v", c.f, list, e, c.want)
		}
	}
}

// TestGenusIsNewAndTheSameEachTime: what is done to an answer is not seen in the next, nor is the order of a map.
func TestGenusIsNewAndTheSameEachTime(t *testing.T) {
	want, _ := quad.Genus(form(1, 0, 500))
	want = slices.Clone(want)
	for range 50 {
		got, _ := quad.Genus(form(1, 0, 500))
		if !slices.Equal(got, want) || !slices.IsSorted(got) {
			t.Fatalf("%v, want %v", got, want)
		}
		clear(got[:cap(got)])
	}
}
