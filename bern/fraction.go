package bern

import "arithmetica/long"

// fraction writes above / below in lowest terms, for below above 0.
func fraction(above, below long.Signed) string {
	common := above.Size().Gcd(below.Size())
	up, _ := above.Size().Divide(common)
	down, _ := below.Size().Divide(common)
	text := up.String()
	if above.Sign() < 0 {
		text = "-" + text
	}
	if down.Compare(long.Of(1)) != 0 {
		text += "/" + down.String()
	}
	return text
}
