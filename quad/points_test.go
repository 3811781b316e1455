package quad_test

import (
	"math"
	"math/big"
	"slices"
	"testing"

	"arithmetica/api"
	"arithmetica/quad"
	"arithmetica/sample"
)

// triedPoints goes through all x and y that are at most so great in size, by x, then by y.
func triedPoints(f api.Form, n, most int) [][2]int {
	var list [][2]int
	for x := -most; x <= most; x++ {
		for y := -most; y <= most; y++ {
			if value(f, x, y) == n {
				list = append(list, [2]int{x, y})
			}
		}
	}
	return list
}

func squareRoot(n int) int { return int(new(big.Int).Sqrt(large(n)).Int64()) }

// sweptPoints goes through all x, and takes each y out of its equation: x^2 times the discriminant's size is at most 4 C n.
func sweptPoints(f api.Form, n int) [][2]int {
	size := -discriminant(f)
	most := squareRoot(4 * f.C * n / size)
	var list [][2]int
	for x := -most; x <= most; x++ {
		square := 4*f.C*n - size*x*x
		root := int(math.Sqrt(float64(square))) // which is exact up to 2^52
		if root*root != square {
			continue
		}
		for _, up := range slices.Compact([]int{-root - f.B*x, root - f.B*x}) {
			if up%(2*f.C) == 0 {
				list = append(list, [2]int{x, up / (2 * f.C)})
			}
		}
	}
	return list
}

func checkPoints(t *testing.T, f api.Form, n int, want [][2]int) {
	t.Helper()
	if list, e := quad.Points(f, n); !slices.Equal(list, want) || e != none {
		t.Fatalf("Points(%v, %d): %v, %v, want %v", f, n, list, e, want)
	}
}

func TestPointsByTryingAll(t *testing.T) {
	for _, f := range fine(formsWithin(5)) {
		// Neither x^2 nor y^2 is above 4 A n or 4 C n over the discriminant's size.
		for n := range 31 {
			checkPoints(t, f, n, triedPoints(f, n, squareRoot(4*max(f.A, f.C)*n/-discriminant(f))+2))
		}
	}
}

func TestPointsOfOneFormAndManyNumbers(t *testing.T) {
	for _, f := range []api.Form{form(1, 0, 1), form(1, 1, 1), form(1, -1, 1), form(2, 1, 3), form(3, -1, 2), form(7, 12, 7), form(1, 0, 5), form(12, 23, 12), form(1, 20, 103)} {
		for n := range 1200 {
			checkPoints(t, f, n, sweptPoints(f, n))
		}
	}
}

// TestPointsOfGreatForms: forms up to MaxSmall, at values that they have, and up to MaxSmall.
func TestPointsOfGreatForms(t *testing.T) {
	met, far := 0, 0
	for i, f := range greatForms(300) {
		g, m, _ := quad.Reduce(f)
		numbers := []int{0, 1, small - i%7, small}
		for k := range 3 {
			numbers = append(numbers, value(f, k-1, 1), value(f, m[0]*(k+1)+m[1], m[2]*(k+1)+m[3]), g.A*(k+1)*(k+1))
		}
		for _, n := range numbers {
			// The sweep is too long where the discriminant is least, but for some.
			if n > small || 4*f.C*n/-discriminant(f) > 1<<32 && i%40 != 0 {
				continue
			}
			want := sweptPoints(f, n)
			checkPoints(t, f, n, want)
			if len(want) > 0 {
				met++
			}
			if len(want) > 0 && want[0][0] < -1000 {
				far++
			}
		}
	}
	if met < 1500 || far < 100 {
		t.Errorf("only %d were met, %d of them far away", met, far)
	}
}

// TestPointsOfNought: there is just one.
func TestPointsOfNought(t *testing.T) {
	for _, f := range greatForms(300) {
		checkPoints(t, f, 0, [][2]int{{0, 0}})
	}
}

// TestPointsAreAsManyAsOfTheReducedForm: m leads from the points of one to those of the other.
func TestPointsAreAsManyAsOfTheReducedForm(t *testing.T) {
	for _, f := range greatForms(300) {
		g, m, _ := quad.Reduce(f)
		for _, n := range []int{1, 720720, small} {
			list, e := quad.Points(g, n)
			if e != none {
				t.Fatalf("Points(%v, %d): %v", g, n, e)
			}
			for i, p := range list {
				list[i] = [2]int{m[0]*p[0] + m[1]*p[1], m[2]*p[0] + m[3]*p[1]}
			}
			slices.SortFunc(list, func(one, other [2]int) int { return slices.Compare(one[:], other[:]) })
			checkPoints(t, f, n, list)
		}
	}
}

func TestPointsOfChosenForms(t *testing.T) {
	for _, c := range []struct {
		f    api.Form
		n    int
		want [][2]int
	}{
		{form(1, 0, 1), 5, [][2]int{{-2, -1}, {-2, 1}, {-1, -2}, {-1, 2}, {1, -2}, {1, 2}, {2, -1}, {2, 1}}},
		{form(1, 0, 1), 0, [][2]int{{0, 0}}},
		{form(1, 0, 1), 1, [][2]int{{-1, 0}, {0, -1}, {0, 1}, {1, 0}}},
		{form(1, 0, 1), 3, nil},
		{form(1, 1, 1), 1, [][2]int{{-1, 0}, {-1, 1}, {0, -1}, {0, 1}, {1, -1}, {1, 0}}},
		{form(1, 1, 1), 2, nil},
		{form(1, -1, 1), 1, [][2]int{{-1, -1}, {-1, 0}, {0, -1}, {0, 1}, {1, 0}, {1, 1}}},
		{form(2, 1, 3), 1, nil},
		{form(2, 1, 3), 2, [][2]int{{-1, 0}, {1, 0}}},
		{form(12, 23, 12), 1, [][2]int{{-1, 1}, {1, -1}}},
		{form(1, 1998, 998002), 1, [][2]int{{-999, 1}, {-1, 0}, {1, 0}, {999, -1}}},
		{form(1, 0, small), small, [][2]int{{-1000, 0}, {0, -1}, {0, 1}, {1000, 0}}},
		{form(small, 0, 1), small, [][2]int{{-1, 0}, {0, -1000}, {0, 1000}, {1, 0}}},
		{form(small, 1, small), small, [][2]int{{-1, 0}, {0, -1}, {0, 1}, {1, 0}}},
		{form(small, 999999, small), small, [][2]int{{-1, 0}, {0, -1}, {0, 1}, {1, 0}}},
		{form(small, 1-small, small-1), small, [][2]int{{-1, -1}, {-1, 0}, {1, 0}, {1, 1}}},
		{form(small, 1, small), small - 1, nil},
	} {
		checkPoints(t, c.f, c.n, c.want)
	}
}

// TestPointsOfNumbersWithMany: n is 5^6 2^6, 5^3 13 17 29 and 7^2 13 19 31; each prime in the latter two splits among Gauss's or Eisenstein's numbers.
func TestPointsOfNumbersWithMany(t *testing.T) {
	for _, c := range []struct {
		f       api.Form
		n, want int
	}{
		{form(1, 0, 1), small, 28},
		{form(514229, 635622, 196418), small, 28},
		{form(1, 1, 1), small, 6},
		{form(1, 0, 1), 801125, 128},
		{form(514229, 635622, 196418), 801125, 128},
		{form(1, 1, 1), 375193, 144},
		{form(744199, -919881, 284259), 375193, 144},
	} {
		if list, e := quad.Points(c.f, c.n); len(list) != c.want || e != none {
			t.Errorf("Points(%v, %d): %d, %v, want %d", c.f, c.n, len(list), e, c.want)
		}
		checkPoints(t, c.f, c.n, sweptPoints(c.f, c.n))
	}
}

func TestPointsOfWrongNumbers(t *testing.T) {
	for _, n := range append(sample.Edges(), -small, -1, small+1) {
		if n >= 0 && n <= small {
			continue
		}
		for _, f := range []api.Form{form(1, 0, 1), form(2, 1, 3), form(small, 1, small)} {
			if list, e := quad.Points(f, n); len(list) != 0 || e != faultOf(api.ErrRange, 0) {
				t.Errorf("Points(%v, %d): %v, %v, want ErrRange at 0", f, n, list, e)
			}
		}
	}
}

// TestListsAreNew: what is done to an answer is not seen in the next.
func TestListsAreNew(t *testing.T) {
	for range 3 {
		points, _ := quad.Points(form(1, 0, 1), 5)
		classes, _ := quad.Classes(-23)
		if points[0] != [2]int{-2, -1} || classes[0] != form(1, 1, 6) {
			t.Errorf("%v, %v", points, classes)
		}
		clear(points[:cap(points)])
		clear(classes[:cap(classes)])
	}
}
