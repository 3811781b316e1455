package frac_test

import (
	"fmt"
	"strings"
	"sync"
	"testing"

	"arithmetica/api"
	"arithmetica/frac"
)

// answers calls all of the face, and tells what they answer.
func answers(x api.Frac, n int, path string) string {
	var list []any
	tell := func(parts ...any) { list = append(list, parts...) }
	next, f := frac.Next(x, n)
	tell(next, f)
	row, f := frac.Row(n)
	tell(row, f)
	steps, f := frac.Path(x)
	tell(steps, f)
	node, f := frac.Node(path)
	tell(node, f)
	egypt, f := frac.Egypt(x)
	tell(egypt, f)
	decimal, f := frac.Decimal(x)
	tell(decimal, f)
	zeck, f := frac.Zeck(n)
	tell(zeck, f)
	return fmt.Sprintln(list...)
}

// TestNoCallPanics goes through all edges (P1); the same arguments have the same answers, ahead of other calls, behind them, and at the same time.
func TestNoCallPanics(t *testing.T) {
	texts := []string{"", "L", "LRL", "x", "\xff", "LR\x00", strings.Repeat("LR", 100), strings.Repeat("LR", 43), strings.Repeat("L", 300)}
	numbers := edges()
	ask := func(i int, x api.Frac) string {
		return answers(x, numbers[i%len(numbers)], texts[i%len(texts)])
	}
	list := pairs()
	first := make([]string, len(list))
	for i, x := range list {
		first[i] = ask(i, x)
	}
	var workers sync.WaitGroup
	for start := range 4 {
		workers.Go(func() {
			for i := start; i < len(list); i += 4 {
				if second := ask(i, list[i]); second != first[i] {
					t.Errorf("of %v: %v, then %v", list[i], first[i], second)
				}
			}
		})
	}
	workers.Wait()
}
