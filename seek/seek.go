// Package seek looks for numbers of which a function that is handed over tells whether they fit.
package seek

// Least answers the least number from 1 on that fits; its callers know that there is one.
func Least(fits func(int) bool) int {
	n := 1
	for !fits(n) {
		n++
	}
	return n
}
