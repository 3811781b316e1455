package long

// Divide answers the greatest quotient with quotient y up to x, and the rest, for y above 0.
//
// It goes digit by digit, a limb being one. First both are scaled, so that the last limb of y is at least half of base: then the first limbs alone tell a digit nearly (Knuth).
func (x Number) Divide(y Number) (quotient, rest Number) {
	scale := base / (y.limbs[len(y.limbs)-1] + 1)
	scaled, by := x.Times(scale), y.Times(scale)
	found := make([]int, len(scaled.limbs))
	var left Number
	for i := len(found) - 1; i >= 0; i-- {
		found[i], left = digit(left.ahead(scaled.limbs[i]), by)
	}
	quotient = trimmed(found)
	return quotient, x.Minus(quotient.Product(y))
}

// digit answers the quotient of x and y, which is below base, and the rest. The estimate is not too low, and at most 2 too high.
func digit(x, y Number) (int, Number) {
	if x.Compare(y) < 0 {
		return 0, x
	}
	last := len(y.limbs) - 1
	estimate := min(base-1, (x.limb(last+1)*base+x.limb(last))/y.limbs[last])
	product := y.Times(estimate)
	for product.Compare(x) > 0 {
		estimate--
		product = product.Minus(y)
	}
	return estimate, x.Minus(product)
}

// ahead answers base x + limb.
func (x Number) ahead(limb int) Number {
	return trimmed(append([]int{limb}, x.limbs...))
}

// Gcd answers the greatest common divisor of x and y; that of 0 and 0 is 0.
func (x Number) Gcd(y Number) Number {
	for !y.IsZero() {
		_, rest := x.Divide(y)
		x, y = y, rest
	}
	return x
}
