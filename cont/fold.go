package cont

import (
	"slices"

	"arithmetica/api"
	"arithmetica/bound"
)

// checkList answers what is wrong with a list that is handed in.
func checkList(l []int) api.Fault {
	if len(l) > api.MaxList {
		return api.Fault{Code: api.ErrMany, At: 0}
	}
	if len(l) == 0 {
		return api.Fault{Code: api.ErrNone, At: 0}
	}
	for i, entry := range l {
		if !bound.IsNumber(entry) || i > 0 && entry < 1 {
			return api.Fault{Code: api.ErrRange, At: i}
		}
	}
	return api.Fault{}
}

// fold answers what l comes to, and whether Up and Down are numbers.
//
// It goes from the last entry to the first, and begins with 1 / 0, to which 1 over it adds nothing. Each Up on the way is at most the Down that comes out at last, so that there is no way back from one that is too great.
func fold(l []int) (api.Frac, bool) {
	x := api.Frac{Up: 1, Down: 0}
	for _, entry := range slices.Backward(l) {
		up, ok := upAhead(entry, x)
		if !ok {
			return api.Frac{}, false
		}
		x = api.Frac{Up: up, Down: x.Up}
	}
	return x, true
}

// upAhead answers the Up of entry and 1 over x, which is entry x.Up + x.Down, and whether it is a number.
func upAhead(entry int, x api.Frac) (int, bool) {
	if entry < 0 {
		up, ok := sumWithin(-entry, x.Up, -x.Down)
		return -up, ok
	}
	return sumWithin(entry, x.Up, x.Down)
}

// sumWithin answers times n + more and whether it is at most MaxNum, for times from 0 on, n above 0, and more that is a number. It divides ahead of multiplying, so that nothing wraps round.
func sumWithin(times, n, more int) (int, bool) {
	if times > (api.MaxNum-more)/n {
		return 0, false
	}
	return times*n + more, true
}
