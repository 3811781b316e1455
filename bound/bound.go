// Package bound tells whether what is handed in lies within the document's bounds.
package bound

import "arithmetica/api"

// IsNumber tells whether n is from -MaxNum to MaxNum.
func IsNumber(n int) bool {
	return -api.MaxNum <= n && n <= api.MaxNum
}

// Between answers ErrRange at the first of the arguments that is not from least to most.
func Between(least, most int, arguments ...int) api.Fault {
	for i, n := range arguments {
		if n < least || n > most {
			return api.Fault{Code: api.ErrRange, At: i}
		}
	}
	return api.Fault{}
}

// Within answers ErrRange at the first of the arguments that is above most in size.
func Within(most int, arguments ...int) api.Fault {
	return Between(-most, most, arguments...)
}

// Numbers answers ErrRange at the first of the arguments that is no number.
func Numbers(arguments ...int) api.Fault {
	return Within(api.MaxNum, arguments...)
}

// Smalls answers ErrRange at the first of the arguments that is above MaxSmall in size.
func Smalls(arguments ...int) api.Fault {
	return Within(api.MaxSmall, arguments...)
}

// IsPair tells whether both parts of x are from -MaxPart to MaxPart.
func IsPair(x api.Pair) bool {
	return isPart(x.A) && isPart(x.B)
}

func isPart(n int) bool {
	return -api.MaxPart <= n && n <= api.MaxPart
}

// Pairs answers ErrRange at the first of the arguments with a part beyond its bound.
func Pairs(arguments ...api.Pair) api.Fault {
	for i, x := range arguments {
		if !IsPair(x) {
			return api.Fault{Code: api.ErrRange, At: i}
		}
	}
	return api.Fault{}
}
