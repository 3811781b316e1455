package frac_test

import (
	"math/big"
	"slices"
	"strings"
	"sync"
	"testing"

	"arithmetica/api"
	"arithmetica/frac"
)

const mostDigits = 2000

// wantEgypt is the chapter's sentence, by long numbers; nil, if a number has too many digits.
func wantEgypt(x api.Frac) []string {
	one := large(1)
	var list []string
	up, down := large(x.Up), large(x.Down)
	for up.Sign() > 0 {
		k := new(big.Int).Add(down, up)
		k.Quo(k.Sub(k, one), up)
		if len(k.String()) > mostDigits {
			return nil
		}
		list = append(list, k.String())
		up.Sub(up.Mul(up, k), down)
		down.Mul(down, k)
		g := new(big.Int).GCD(nil, nil, up, down)
		up.Quo(up, g)
		down.Quo(down, g)
	}
	return list
}

// checkEgypt holds each number against the two sides of 'the least number', and the sum against x: 1/k is not above what is left, but one over the number ahead of k is.
func checkEgypt(t *testing.T, x api.Frac) {
	list, f := frac.Egypt(x)
	if f != none {
		if f != faultOf(api.ErrMuch, 0) || list != nil || wantEgypt(x) != nil {
			t.Errorf("Egypt(%v): %d numbers, %v", x, len(list), f)
		}
		return
	}
	left := big.NewRat(int64(x.Up), int64(x.Down))
	for _, text := range list {
		k, ok := new(big.Int).SetString(text, 10)
		if !ok || k.String() != text || k.Sign() <= 0 || len(text) > mostDigits {
			t.Errorf("Egypt(%v) has %.30q", x, text)
			return
		}
		ahead := new(big.Int).Sub(k, large(1))
		if ahead.Sign() == 0 || new(big.Rat).SetFrac(large(1), ahead).Cmp(left) <= 0 {
			t.Errorf("Egypt(%v) has %.30s, which is not the least", x, text)
		}
		left.Sub(left, new(big.Rat).SetFrac(large(1), k))
		if left.Sign() < 0 {
			t.Errorf("Egypt(%v) has %.30s, 1 over which is above what is left", x, text)
		}
	}
	if left.Sign() != 0 {
		t.Errorf("Egypt(%v): the sum is not this fraction", x)
	}
}

// eachBelowOne hands all fractions above 0 and below 1, with a Down from least to most, to several workers.
func eachBelowOne(least, most int, do func(x api.Frac)) {
	var workers sync.WaitGroup
	for start := range 8 {
		workers.Go(func() {
			for down := least + start; down <= most; down += 8 {
				for up := 1; up < down; up++ {
					if gcd(up, down) == 1 {
						do(fraction(up, down))
					}
				}
			}
		})
	}
	workers.Wait()
}

// TestEgyptOfAllFractions: all that Egypt takes, so that it is shown to end, too.
func TestEgyptOfAllFractions(t *testing.T) {
	eachBelowOne(2, mostEgypt, func(x api.Frac) {
		list, f := frac.Egypt(x)
		want, wantFault := wantEgypt(x), none
		if want == nil {
			wantFault = faultOf(api.ErrMuch, 0)
		}
		if !slices.Equal(list, want) || f != wantFault {
			t.Errorf("Egypt(%v): %.100v, %v, want %.100v", x, list, f, want)
		}
	})
}

func TestEgyptIsASumOfTheLeastNumbers(t *testing.T) {
	eachBelowOne(2, 150, func(x api.Frac) { checkEgypt(t, x) })
	eachBelowOne(990, mostEgypt, func(x api.Frac) { checkEgypt(t, x) })
	for _, x := range []api.Frac{{Up: 36, Down: 457}, {Up: 529, Down: 914}, {Up: 11, Down: 199}, {Up: 641, Down: 796}, {Up: 214, Down: 919}} {
		checkEgypt(t, x)
	}
}

func TestEgyptOfChosenFractions(t *testing.T) {
	for x, want := range map[api.Frac]string{
		fraction(5, 6): "2 3", fraction(1, 2): "2", fraction(2, 3): "2 6", fraction(3, 7): "3 11 231", fraction(4, 5): "2 4 20", fraction(1, 1000): "1000", fraction(999, 1000): "2 3 7 44 12158 1404249000",
		fraction(5, 121): "25 757 763309 873960180913 1527612795642093418846225", fraction(4, 13): "4 18 468", fraction(7, 15): "3 8 120", fraction(499, 1000): "3 7 44 12158 1404249000",
	} {
		list, f := frac.Egypt(x)
		if wanted := wantEgypt(x); strings.Join(wanted, " ") != want {
			t.Fatalf("%v is %v", x, wanted)
		}
		if strings.Join(list, " ") != want || f != none {
			t.Errorf("Egypt(%v): %v, %v, want %s", x, list, f, want)
		}
	}
}

// TestEgyptOfManyDigits: only two fractions come to a number of more than 2000 digits, which has 2847; the longest one below it has 1348.
func TestEgyptOfManyDigits(t *testing.T) {
	for _, x := range []api.Frac{{Up: 36, Down: 457}, {Up: 529, Down: 914}} {
		if list, f := frac.Egypt(x); list != nil || f != faultOf(api.ErrMuch, 0) {
			t.Errorf("Egypt(%v): %d numbers, %v, want ErrMuch at 0", x, len(list), f)
		}
	}
	for x, many := range map[api.Frac]int{{Up: 11, Down: 199}: 11, {Up: 221, Down: 398}: 12, {Up: 232, Down: 597}: 12, {Up: 243, Down: 796}: 12, {Up: 641, Down: 796}: 13} {
		list, f := frac.Egypt(x)
		if len(list) != many || f != none || len(list[many-1]) != 1348 {
			t.Errorf("Egypt(%v): %d numbers, %v, want %d, the last one with 1348 digits", x, len(list), f, many)
		}
	}
}

func wrongEgypt(x api.Frac) api.Fault {
	if f := wrong(x); f != none {
		return f
	}
	if x.Up <= 0 || x.Up >= x.Down || x.Down > mostEgypt {
		return faultOf(api.ErrRange, 0)
	}
	if wantEgypt(x) == nil {
		return faultOf(api.ErrMuch, 0)
	}
	return none
}

func TestEgyptTellsItsFaultsInOrder(t *testing.T) {
	outcomes := map[api.Fault]int{}
	for _, x := range append(pairs(), fraction(36, 457), fraction(529, 914)) {
		want := wrongEgypt(x)
		list, f := frac.Egypt(x)
		if f != want || (f == none) != (len(list) > 0) {
			t.Errorf("Egypt(%v): %v, %v, want %v", x, list, f, want)
		}
		outcomes[f]++
	}
	checkOutcomes(t, outcomes, none, faultOf(api.ErrRange, 0), faultOf(api.ErrForm, 0), faultOf(api.ErrMuch, 0))
}

func TestEgyptOfChosenFaults(t *testing.T) {
	for x, code := range map[api.Frac]int{
		fraction(top+1, 2): api.ErrRange, fraction(1, top+1): api.ErrRange, fraction(-top-1, 0): api.ErrRange, fraction(2, 4): api.ErrForm, fraction(0, 2): api.ErrForm, fraction(1, 0): api.ErrForm, fraction(-1, 0): api.ErrForm, fraction(1, -2): api.ErrForm, fraction(2, 2000): api.ErrForm, fraction(1001, 1001): api.ErrForm,
		fraction(0, 1): api.ErrRange, fraction(1, 1): api.ErrRange, fraction(-1, 2): api.ErrRange, fraction(3, 2): api.ErrRange, fraction(2, 1): api.ErrRange, fraction(1, 1001): api.ErrRange, fraction(1000, 1001): api.ErrRange, fraction(1, top): api.ErrRange, fraction(top, 1): api.ErrRange, fraction(top-1, top): api.ErrRange,
	} {
		if list, f := frac.Egypt(x); list != nil || f != faultOf(code, 0) {
			t.Errorf("Egypt(%v): %v, %v, want %d", x, list, f, code)
		}
	}
}

func TestEgyptIsNewMemory(t *testing.T) {
	for _, x := range []api.Frac{{Up: 1, Down: 2}, {Up: 5, Down: 6}, {Up: 5, Down: 121}, {Up: 999, Down: 1000}, {Up: 641, Down: 796}} {
		first, _ := frac.Egypt(x)
		second, _ := frac.Egypt(x)
		clear(first[:cap(first)])
		third, _ := frac.Egypt(x)
		if want := wantEgypt(x); !slices.Equal(second, want) || !slices.Equal(third, want) {
			t.Errorf("Egypt(%v) shares memory: %v, %v", x, second, third)
		}
	}
}
