package bound_test

import (
	"math"
	"testing"

	"arithmetica/api"
	"arithmetica/bound"
)

func TestIsNumberTurnsAtTheBound(t *testing.T) {
	for n, want := range map[int]bool{
		math.MinInt: false, -1000000000000000001: false, -1000000000000000000: true, -1: true, 0: true, 1: true,
		1000000000000000000: true, 1000000000000000001: false, math.MaxInt: false,
	} {
		if got := bound.IsNumber(n); got != want {
			t.Errorf("IsNumber(%d): %v, want %v", n, got, want)
		}
	}
}

func TestNumbersTellsTheFirstThatIsNone(t *testing.T) {
	for _, c := range []struct {
		arguments []int
		want      api.Fault
	}{
		{nil, api.Fault{}},
		{[]int{0, api.MaxNum, -api.MaxNum}, api.Fault{}},
		{[]int{api.MaxNum + 1, 0, -api.MaxNum - 1}, api.Fault{Code: api.ErrRange, At: 0}},
		{[]int{0, 1, -api.MaxNum - 1, math.MaxInt}, api.Fault{Code: api.ErrRange, At: 2}},
	} {
		if got := bound.Numbers(c.arguments...); got != c.want {
			t.Errorf("Numbers(%v): %v, want %v", c.arguments, got, c.want)
		}
	}
}

func TestBetweenTellsTheFirstThatIsBeyond(t *testing.T) {
	for _, c := range []struct {
		least, most int
		arguments   []int
		want        api.Fault
	}{
		{1, 5, nil, api.Fault{}},
		{1, 5, []int{1, 5, 3}, api.Fault{}},
		{1, 5, []int{0, 6}, api.Fault{Code: api.ErrRange, At: 0}},
		{1, 5, []int{5, 6, 0}, api.Fault{Code: api.ErrRange, At: 1}},
		{0, 5, []int{0, 1, -1}, api.Fault{Code: api.ErrRange, At: 2}},
		{0, 0, []int{0}, api.Fault{}},
		{0, 5, []int{math.MinInt}, api.Fault{Code: api.ErrRange, At: 0}},
		{math.MinInt, math.MaxInt, []int{math.MinInt, math.MaxInt}, api.Fault{}},
	} {
		if got := bound.Between(c.least, c.most, c.arguments...); got != c.want {
			t.Errorf("Between(%d, %d, %v): %v, want %v", c.least, c.most, c.arguments, got, c.want)
		}
	}
}

func TestWithinTellsTheFirstThatIsBeyond(t *testing.T) {
	for _, c := range []struct {
		most      int
		arguments []int
		want      api.Fault
	}{
		{5, nil, api.Fault{}},
		{0, []int{0, 0}, api.Fault{}},
		{0, []int{0, 1}, api.Fault{Code: api.ErrRange, At: 1}},
		{5, []int{5, -5, 0}, api.Fault{}},
		{5, []int{6, -6}, api.Fault{Code: api.ErrRange, At: 0}},
		{5, []int{5, -6, 6}, api.Fault{Code: api.ErrRange, At: 1}},
		{5, []int{math.MinInt}, api.Fault{Code: api.ErrRange, At: 0}},
		{math.MaxInt, []int{math.MaxInt, -math.MaxInt, math.MinInt}, api.Fault{Code: api.ErrRange, At: 2}},
	} {
		if got := bound.Within(c.most, c.arguments...); got != c.want {
			t.Errorf("Within(%d, %v): %v, want %v", c.most, c.arguments, got, c.want)
		}
	}
}

func TestSmallsTellsTheFirstThatIsBeyond(t *testing.T) {
	for _, c := range []struct {
		arguments []int
		want      api.Fault
	}{
		{nil, api.Fault{}},
		{[]int{0, 1000000, -1000000}, api.Fault{}},
		{[]int{1000001, 0, -1000001}, api.Fault{Code: api.ErrRange, At: 0}},
		{[]int{-1000001}, api.Fault{Code: api.ErrRange, At: 0}},
		{[]int{0, math.MinInt, math.MaxInt}, api.Fault{Code: api.ErrRange, At: 1}},
		{[]int{1000000, 1, math.MaxInt}, api.Fault{Code: api.ErrRange, At: 2}},
	} {
		if got := bound.Smalls(c.arguments...); got != c.want {
			t.Errorf("Smalls(%v): %v, want %v", c.arguments, got, c.want)
		}
	}
}

func TestIsPairTurnsAtTheBoundOfEachPart(t *testing.T) {
	for n, want := range map[int]bool{
		math.MinInt: false, -500000001: false, -500000000: true, -1: true, 0: true, 1: true, 500000000: true, 500000001: false, math.MaxInt: false,
	} {
		for _, x := range []api.Pair{{A: n}, {B: n}, {A: n, B: api.MaxPart}, {A: -api.MaxPart, B: n}} {
			if got := bound.IsPair(x); got != want {
				t.Errorf("IsPair(%v): %v, want %v", x, got, want)
			}
		}
	}
}

func TestPairsTellsTheFirstThatIsNone(t *testing.T) {
	most, beyond := api.Pair{A: api.MaxPart, B: -api.MaxPart}, api.Pair{B: api.MaxPart + 1}
	for _, c := range []struct {
		arguments []api.Pair
		want      api.Fault
	}{
		{nil, api.Fault{}},
		{[]api.Pair{{}, most}, api.Fault{}},
		{[]api.Pair{beyond, {}, beyond}, api.Fault{Code: api.ErrRange, At: 0}},
		{[]api.Pair{{}, most, beyond, beyond}, api.Fault{Code: api.ErrRange, At: 2}},
	} {
		if got := bound.Pairs(c.arguments...); got != c.want {
			t.Errorf("Pairs(%v): %v, want %v", c.arguments, got, c.want)
		}
	}
}
