package long

// Signed is a whole number of either sign, which its calls leave as it is. The zero Signed is 0.
type Signed struct {
	size  Number
	below bool // it is below 0, and so its size is not 0
}

// SignedOf answers n, from -math.MaxInt on, as a Signed.
func SignedOf(n int) Signed {
	return signed(Of(max(n, -n)), n < 0)
}

func signed(size Number, below bool) Signed {
	return Signed{size, below && !size.IsZero()}
}

// Size answers x without its sign.
func (x Signed) Size() Number { return x.size }

// Sign answers -1, 0 or 1: x is below 0, 0, or above it.
func (x Signed) Sign() int {
	switch {
	case x.below:
		return -1
	case x.size.IsZero():
		return 0
	}
	return 1
}

// Negative answers -x.
func (x Signed) Negative() Signed { return signed(x.size, !x.below) }

// Plus answers x + y.
func (x Signed) Plus(y Signed) Signed {
	switch {
	case x.below == y.below:
		return signed(x.size.Plus(y.size), x.below)
	case x.size.Compare(y.size) < 0:
		return signed(y.size.Minus(x.size), y.below)
	}
	return signed(x.size.Minus(y.size), x.below)
}

// Minus answers x - y.
func (x Signed) Minus(y Signed) Signed { return x.Plus(y.Negative()) }

// Product answers x y.
func (x Signed) Product(y Signed) Signed {
	return signed(x.size.Product(y.size), x.below != y.below)
}

// Divide answers the greatest whole number that is not above x / y, and the rest, which is 0 or of y's sign, for y that is not 0.
func (x Signed) Divide(y Signed) (quotient, rest Signed) {
	size, left := x.size.Divide(y.size)
	if x.below == y.below || left.IsZero() {
		return signed(size, x.below != y.below), signed(left, x.below)
	}
	return signed(size.Plus(Of(1)), true), signed(y.size.Minus(left), y.below)
}

// Int answers x, from -math.MaxInt to math.MaxInt, as an int.
func (x Signed) Int() int { return x.Sign() * x.size.Int() }

// String writes x in decimal, - ahead if it is below 0.
func (x Signed) String() string {
	if x.below {
		return "-" + x.size.String()
	}
	return x.size.String()
}
