package frac

import (
	"strings"

	"arithmetica/api"
	"arithmetica/cont"
)

// runsTo answers how many steps lead to x, above 0, to the right and to the left in turn, and whether they are at most MaxText in all.
//
// They are the entries of the list that comes to x; but the last one leads from an end to x, and the tree begins a step nearer, at 1/1. An int holds their sum: each step makes Up and Down together greater.
func runsTo(x api.Frac) ([]int, bool) {
	runs, _ := cont.Expand(x.Up, x.Down)
	runs[len(runs)-1]--
	all := 0
	for _, run := range runs {
		all += run
	}
	return runs, all <= api.MaxText
}

// steps writes runs, the first of which is to the right.
func steps(runs []int) string {
	var text strings.Builder
	for i, run := range runs {
		step := "R"
		if i%2 == 1 {
			step = "L"
		}
		text.WriteString(strings.Repeat(step, run))
	}
	return text.String()
}

// walk answers the fraction that is reached by path, or ErrMuch at the first step whose fraction is too great. Nothing wraps round: no end is above the fraction of the step ahead.
func walk(path string) (api.Frac, api.Fault) {
	lower, upper := api.Frac{Up: 0, Down: 1}, api.Frac{Up: 1, Down: 0}
	place := together(lower, upper)
	for i := range len(path) {
		if path[i] == 'L' {
			upper = place
		} else {
			lower = place
		}
		place = together(lower, upper)
		if max(place.Up, place.Down) > api.MaxNum {
			return api.Frac{}, api.Fault{Code: api.ErrMuch, At: i}
		}
	}
	return place, api.Fault{}
}
