package partition_test

import (
	"math/big"
	"sync"
	"testing"

	"arithmetica/api"
	"arithmetica/partition"
)

// counts answers what Count answers of all numbers that it takes. Several calls run at the same time.
var counts = sync.OnceValue(func() []string {
	list := make([]string, tiny+1)
	var workers sync.WaitGroup
	for start := range 8 {
		workers.Go(func() {
			for n := start; n <= tiny; n += 8 {
				list[n], _ = partition.Count(n)
			}
		})
	}
	workers.Wait()
	return list
})

// countedByEntries counts the partitions of all numbers up to most entry by entry, those that fit: with one more entry allowed, n has those of n - entry beside its own.
func countedByEntries(most int, fits func(entry int) bool) []*big.Int {
	list := []*big.Int{big.NewInt(1)}
	for range most {
		list = append(list, new(big.Int))
	}
	for entry := 1; entry <= most; entry++ {
		if !fits(entry) {
			continue
		}
		for n := entry; n <= most; n++ {
			list[n].Add(list[n], list[n-entry])
		}
	}
	return list
}

// TestCountOfAllNumbers: Count against counting entry by entry, of all numbers that it takes.
func TestCountOfAllNumbers(t *testing.T) {
	want := countedByEntries(tiny, func(int) bool { return true })
	for n, text := range counts() {
		if text != want[n].String() {
			t.Fatalf("Count(%d): %q, want %v", n, text, want[n])
		}
	}
}

// TestCountIsHowManyListHas: where List answers.
func TestCountIsHowManyListHas(t *testing.T) {
	for n := range 26 {
		list, f := partition.List(n)
		count, g := partition.Count(n)
		if big.NewInt(int64(len(list))).String() != count || f != none || g != none {
			t.Errorf("Count(%d): %s, %v; List has %d, %v", n, count, g, len(list), f)
		}
	}
}

func TestCountOfChosenNumbers(t *testing.T) {
	for n, want := range map[int]string{
		0: "1", 1: "1", 2: "2", 3: "3", 4: "5", 5: "7", 6: "11", 7: "15", 8: "22", 9: "30", 10: "42", 25: "1958", 26: "2436", 49: "173525", 50: "204226", 100: "190569292", 200: "3972999029388",
		1000: "24061467864032622473692149727991", 2000: "4720819175619413888601432406799959512200344166",
	} {
		if text, f := partition.Count(n); text != want || f != none {
			t.Errorf("Count(%d): %q, %v, want %s", n, text, f, want)
		}
	}
}

// TestCountKeepsRamanujansCongruences: of all numbers that Count takes.
func TestCountKeepsRamanujansCongruences(t *testing.T) {
	for _, c := range []struct{ by, left, many int }{{5, 4, 400}, {7, 5, 286}, {11, 6, 182}} {
		by, many := big.NewInt(int64(c.by)), 0
		for n := c.left; n <= tiny; n += c.by {
			count, ok := new(big.Int).SetString(counts()[n], 10)
			if !ok || count.Sign() <= 0 || new(big.Int).Mod(count, by).Sign() != 0 {
				t.Fatalf("Count(%d): %q, which %d should divide", n, counts()[n], c.by)
			}
			many++
		}
		if many != c.many {
			t.Errorf("by %d there are %d numbers, and not %d", c.by, many, c.many)
		}
	}
}

func TestCountTellsItsFault(t *testing.T) {
	outcomes := map[api.Fault]int{}
	for _, n := range wrongs() {
		want := none
		if n < 0 || n > tiny {
			want = faultOf(api.ErrRange, 0)
		}
		text, f := partition.Count(n)
		if f != want || (f != none) != (text == "") {
			t.Errorf("Count(%d): %q, %v, want %v", n, text, f, want)
		}
		outcomes[f]++
	}
	if len(outcomes) != 2 {
		t.Errorf("not each outcome is met: %v", outcomes)
	}
}
