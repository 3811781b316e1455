package prime

import (
	"slices"
	"testing"

	"arithmetica/api"
)

// TestFoundOnceAreThoseThatRise: what is found once and what rising works out are the same primes, and just those that First answers and that Next goes through.
func TestFoundOnceAreThoseThatRise(t *testing.T) {
	first, f := First(api.MaxList)
	if f != (api.Fault{}) || !slices.Equal(first, found[:]) {
		t.Fatalf("First(%d): %v, %v, but found once are %v", api.MaxList, first, f, found)
	}
	many, last := 0, 0
	for p := range rising {
		if many == len(found) {
			break
		}
		if p != found[many] {
			t.Fatalf("prime %d: found once %d, worked out %d", many, found[many], p)
		}
		if next, _ := Next(last); p != next {
			t.Fatalf("prime %d: worked out %d, and Next(%d) is %d", many, p, last, next)
		}
		many, last = many+1, p
	}
}

// TestOnlyFirstReadsWhatIsFoundOnce: the others answer the same when all that was found is lost.
func TestOnlyFirstReadsWhatIsFoundOnce(t *testing.T) {
	if list, _ := First(1); !slices.Equal(list, []int{2}) {
		t.Fatalf("First(1): %v", list)
	}
	kept := found
	found = [api.MaxList]int{}
	defer func() { found = kept }()

	for n, want := range map[int]bool{1: false, 2: true, 23: true, 561: false, 7919: true, 7921: false, 999999999999999989: true, 999999929 * 999999937: false} {
		if got, f := Is(n); got != want || f.Code != api.OK {
			t.Errorf("Is(%d): %v, %v, want %v", n, got, f, want)
		}
	}
	if got, f := Next(7907); got != 7919 || f.Code != api.OK {
		t.Errorf("Next(7907): %d, %v, want 7919", got, f)
	}
	if got, f := Count(api.MaxSmall, 4); got != 78498 || f.Code != api.OK {
		t.Errorf("Count(%d, 4): %d, %v, want 78498", api.MaxSmall, got, f)
	}
	want := []api.Power{{Prime: 2, Times: 1}, {Prime: 997, Times: 2}, {Prime: 1009, Times: 1}, {Prime: 7919, Times: 2}}
	if got, f := Factor(2 * 997 * 997 * 1009 * 7919 * 7919); !slices.Equal(got, want) || f.Code != api.OK {
		t.Errorf("Factor: %v, %v, want %v", got, f, want)
	}
}
