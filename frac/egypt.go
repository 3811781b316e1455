package frac

import (
	"arithmetica/api"
	"arithmetica/long"
)

const mostDigits = 2000 // of each number that Egypt answers

// egypt answers the numbers for x, above 0 and below 1. It ends: what is left has a lesser Up each time, so that an int holds it, too.
func egypt(x api.Frac) ([]string, api.Fault) {
	up, down := x.Up, long.Of(x.Down)
	var list []string
	for up > 0 {
		k, left := least(up, down)
		text := k.String()
		if len(text) > mostDigits {
			return nil, api.Fault{Code: api.ErrMuch, At: 0}
		}
		list = append(list, text)
		up, down = left, down.Product(k)
	}
	return list, api.Fault{}
}

// least answers the least k with 1/k not above up/down, and up k - down, which is below up: what is left has it as its Up, and down k as its Down.
func least(up int, down long.Number) (k long.Number, left int) {
	k, rest := down.Divide(long.Of(up))
	if rest.IsZero() {
		return k, 0
	}
	return k.Plus(long.Of(1)), up - rest.Int()
}
