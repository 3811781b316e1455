package frac

import (
	"arithmetica/api"
	"arithmetica/whole"
)

// next answers the least fraction above x whose Down is at most n, for n from x.Down to MaxSmall, and x.Up up to that in size, so that an int holds the product.
//
// Of the fractions c/d with b c - a d = 1, where x is a/b, it is the one with the greatest d up to n: what lies between such two has a Down of at least b + d, which is above n.
func next(x api.Frac, n int) api.Frac {
	inverse, _ := whole.Inverse(x.Up, x.Down)
	down := n - (n+inverse)%x.Down
	return api.Frac{Up: (x.Up*down + 1) / x.Down, Down: down}
}

// row answers all fractions from 0 to 1 whose Down is at most n, rising.
//
// It begins with the whole ones, and lays those of one Down more between them until n is reached: each is the sum of the two between which it comes to stand.
func row(n int) []api.Frac {
	list := []api.Frac{{Up: 0, Down: 1}, {Up: 1, Down: 1}}
	for i := range n - 1 {
		list = withDown(list, i+2)
	}
	return list
}

// withDown answers the row of all up to down, of the row of all below it.
func withDown(list []api.Frac, down int) []api.Frac {
	longer := []api.Frac{list[0]}
	for i, x := range list[1:] {
		if between := together(list[i], x); between.Down == down {
			longer = append(longer, between)
		}
		longer = append(longer, x)
	}
	return longer
}

// together answers the fraction that has as its Up both Ups together, and as its Down both Downs.
func together(x, y api.Frac) api.Frac {
	return api.Frac{Up: x.Up + y.Up, Down: x.Down + y.Down}
}
