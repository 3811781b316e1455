package seek_test

import (
	"testing"

	"arithmetica/seek"
)

func TestLeastIsTheFirstThatFits(t *testing.T) {
	for _, want := range []int{1, 2, 3, 1000} {
		asked := 0
		got := seek.Least(func(n int) bool {
			asked++
			if n != asked {
				t.Fatalf("%d is asked in place of %d", n, asked)
			}
			return n%want == 0
		})
		if got != want || asked != want {
			t.Errorf("%d after %d questions, want %d", got, asked, want)
		}
	}
}
