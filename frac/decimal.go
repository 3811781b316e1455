package frac

import (
	"strconv"

	"arithmetica/api"
	"arithmetica/hang"
	"arithmetica/whole"
)

// decimal writes x in decimal.
func decimal(x api.Frac) string {
	up, text := x.Up, ""
	if up < 0 {
		up, text = -up, "-"
	}
	text += strconv.Itoa(up / x.Down)
	if x.Down == 1 {
		return text
	}
	once, again := lengths(x.Down)
	first, rest := digits(up%x.Down, x.Down, once)
	text += "." + first
	if again == 0 {
		return text
	}
	cycle, _ := digits(rest, x.Down, again)
	return text + "(" + cycle + ")"
}

// lengths answers how many digits behind the point do not come again, and how many do; these hang on down alone, as nothing above 1 divides up, too.
//
// Behind one digit, what is left to be written is ten times as much, less a whole number. So the 2s and 5s in down go, at most one of each with each digit; and once they are gone, it comes again when a power of ten leaves 1, left by what remains of down.
func lengths(down int) (once, again int) {
	common, _ := whole.Gcd(down, 10)
	for common > 1 {
		down /= common
		once++
		common, _ = whole.Gcd(down, 10)
	}
	if down == 1 {
		return once, 0
	}
	again, _ = hang.Order(10, down)
	return once, again
}

// digits answers so many digits of rest / down behind the point, for rest below down, and the rest that they leave.
func digits(rest, down, many int) (string, int) {
	text := make([]byte, many)
	for i := range many {
		rest *= 10
		text[i] = byte('0' + rest/down)
		rest %= down
	}
	return string(text), rest
}
