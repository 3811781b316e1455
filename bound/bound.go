// Package bound tells whether what is handed in lies within the document's bounds.
package bound

import "arithmetica/api"

// IsNumber tells whether n is from -MaxNum to MaxNum.
func IsNumber(n int) bool {
	return -api.MaxNum <= n && n <= api.MaxNum
}

// Numbers answers ErrRange at the first of the arguments that is no number.
func Numbers(arguments ...int) api.Fault {
	for i, n := range arguments {
		if !IsNumber(n) {
			return api.Fault{Code: api.ErrRange, At: i}
		}
	}
	return api.Fault{}
}
