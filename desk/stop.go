package desk

import "arithmetica/api"

// stop is what the desk panics with where a line goes no further: the code of what is wrong with it.
type stop struct{ code int }

// need stops with the code, unless it is so.
func need(so bool, code int) {
	if !so {
		panic(stop{code})
	}
}

// stopped does what is handed over, and answers the code that it stopped with; OK, if it came to its end. A panic with anything else would be a fault of the program's, and goes on.
func stopped(do func()) (code int) {
	defer func() {
		switch reason := recover().(type) {
		case nil:
		case stop:
			code = reason.code
		default:
			panic(reason)
		}
	}()
	do()
	return api.OK
}
