package desk

import (
	"errors"
	"testing"

	"arithmetica/api"
)

// TestStopped: what goes to its end has no fault, and a panic with anything else is not hidden.
func TestStopped(t *testing.T) {
	if code := stopped(func() { need(true, api.ErrText) }); code != api.OK {
		t.Errorf("%d", code)
	}
	for code := api.ErrText; code <= api.ErrFalse; code++ {
		ends := false
		if got := stopped(func() { need(false, code); ends = true }); got != code || ends {
			t.Errorf("%d, want %d; to its end: %v", got, code, ends)
		}
	}
	for _, reason := range []any{"x", 5, errors.New("x")} {
		func() {
			defer func() {
				if got := recover(); got != reason {
					t.Errorf("%v, want %v", got, reason)
				}
			}()
			stopped(func() { panic(reason) })
		}()
	}
}
