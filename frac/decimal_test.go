package frac_test

import (
	"math/big"
	"strconv"
	"strings"
	"sync"
	"testing"

	"arithmetica/api"
	"arithmetica/frac"
)

// divided divides by hand, digit by digit, until nothing is left or what is left was left already.
func divided(x api.Frac) string {
	text := strconv.Itoa(size(x.Up) / x.Down)
	if x.Up < 0 {
		text = "-" + text
	}
	left := size(x.Up) % x.Down
	if left == 0 {
		return text
	}
	var digits []byte
	places := map[int]int{}
	for left != 0 {
		if place, ok := places[left]; ok {
			return text + "." + string(digits[:place]) + "(" + string(digits[place:]) + ")"
		}
		places[left] = len(digits)
		digits = append(digits, "0123456789"[10*left/x.Down])
		left = 10 * left % x.Down
	}
	return text + "." + string(digits)
}

// parts takes apart what Decimal writes: sign, what stands ahead of the point, the digits that do not come again, and those that do.
func parts(t *testing.T, text string) (below bool, ahead, once, again string) {
	t.Helper()
	rest, below := strings.CutPrefix(text, "-")
	ahead, behind, point := strings.Cut(rest, ".")
	once, again, cycle := strings.Cut(behind, "(")
	again, closed := strings.CutSuffix(again, ")")
	isRight := cycle == closed && cycle == (again != "") && point == (once+again != "")
	if strings.Trim(ahead+once+again, "0123456789") != "" || ahead == "" || len(ahead) > 1 && ahead[0] == '0' || !isRight {
		t.Errorf("%.60q is not how a fraction is written", text)
		return false, "0", "", ""
	}
	return below, ahead, once, again
}

// readBack answers what text comes to, as a fraction that may be not in lowest terms.
func readBack(t *testing.T, text string) (up, down *big.Int) {
	t.Helper()
	below, ahead, once, again := parts(t, text)
	power := func(n int) *big.Int { return new(big.Int).Exp(large(10), large(n), nil) }
	up, _ = new(big.Int).SetString(ahead+once+again, 10)
	down = power(len(once))
	if again != "" {
		shorter, _ := new(big.Int).SetString(ahead+once, 10)
		up.Sub(up, shorter)
		down.Mul(down, new(big.Int).Sub(power(len(again)), large(1)))
	}
	if below {
		up.Neg(up)
	}
	return up, down
}

// isShortest tells whether no fewer digits come again, and none sooner; and whether noughts and nines, which are written in another way, do not.
func isShortest(once, again string) bool {
	if again == "" {
		return !strings.HasSuffix(once, "0")
	}
	// A part that comes again in a text comes again there in the text laid behind itself.
	fewer := strings.Index((again + again)[1:], again) + 1
	sooner := once != "" && once[len(once)-1] == again[len(again)-1]
	return fewer == len(again) && !sooner && again != "0" && again != "9"
}

func checkDecimal(t *testing.T, x api.Frac) {
	text, f := frac.Decimal(x)
	if want := divided(x); text != want || f != none {
		t.Errorf("Decimal(%v): %.60q, %v, want %.60q", x, text, f, want)
		return
	}
	up, down := readBack(t, text)
	if up.Mul(up, large(x.Down)).Cmp(down.Mul(down, large(x.Up))) != 0 {
		t.Errorf("Decimal(%v): %.60q, which is not this fraction", x, text)
	}
	if _, _, once, again := parts(t, text); !isShortest(once, again) {
		t.Errorf("Decimal(%v): %.60q, which is not the shortest", x, text)
	}
}

func TestDecimalOfAllSmallFractions(t *testing.T) {
	for _, x := range right(-150, 150, 60) {
		checkDecimal(t, x)
	}
}

// TestDecimalOfAllDowns: with Ups of all lengths.
func TestDecimalOfAllDowns(t *testing.T) {
	var workers sync.WaitGroup
	for start := range 8 {
		workers.Go(func() {
			for down := 1 + start; down <= mostDecimal; down += 8 {
				for _, up := range []int{1, -1, down - 1, -top, top - 1, 1234567890123 * down / 997} {
					g := gcd(up, down)
					if up != 0 {
						checkDecimal(t, fraction(up/g, down/g))
					}
				}
			}
		})
	}
	workers.Wait()
}

func TestDecimalOfChosenFractions(t *testing.T) {
	for x, want := range map[api.Frac]string{
		fraction(1, 6): "0.1(6)", fraction(-3, 8): "-0.375", fraction(7, 1): "7", fraction(1, 7): "0.(142857)", fraction(0, 1): "0",
		fraction(-7, 1): "-7", fraction(top, 1): "1000000000000000000", fraction(-top, 1): "-1000000000000000000",
		fraction(1, 2): "0.5", fraction(-1, 2): "-0.5", fraction(1, 5): "0.2", fraction(1, 10): "0.1", fraction(101, 100): "1.01", fraction(1, 4096): "0.000244140625", fraction(1, 3125): "0.00032", fraction(1, 5000): "0.0002", fraction(4999, 5000): "0.9998",
		fraction(1, 3): "0.(3)", fraction(-1, 3): "-0.(3)", fraction(1, 9): "0.(1)", fraction(8, 9): "0.(8)", fraction(10, 3): "3.(3)", fraction(-22, 7): "-3.(142857)", fraction(1, 11): "0.(09)", fraction(1, 99): "0.(01)", fraction(1, 999): "0.(001)", fraction(100, 99): "1.(01)",
		fraction(1, 12): "0.08(3)", fraction(1, 15): "0.0(6)", fraction(-1, 75): "-0.01(3)", fraction(1, 70): "0.0(142857)", fraction(5, 14): "0.3(571428)", fraction(1, 3072): "0.0003255208(3)", fraction(top, 3): "333333333333333333.(3)", fraction(-top, 7): "-142857142857142857.(142857)", fraction(top-1, 5000): "199999999999999.9998", fraction(top, 4999): divided(fraction(top, 4999)),
	} {
		if text, f := frac.Decimal(x); text != want || f != none {
			t.Errorf("Decimal(%v): %.60q, %v, want %q", x, text, f, want)
		}
	}
	// 10 is a generator of 4967: as many digits as there can be come again.
	if text, f := frac.Decimal(fraction(1, 4967)); len(text) != len("0.()")+4966 || f != none {
		t.Errorf("Decimal of 1/4967 has %d bytes, %v", len(text), f)
	}
}

func wrongDecimal(x api.Frac) api.Fault {
	if f := wrong(x); f != none {
		return f
	}
	if x.Down > mostDecimal {
		return faultOf(api.ErrMany, 0)
	}
	return none
}

func TestDecimalTellsItsFaultsInOrder(t *testing.T) {
	outcomes := map[api.Fault]int{}
	for _, x := range pairs() {
		want, wantText := wrongDecimal(x), ""
		if want == none {
			wantText = divided(x)
		}
		text, f := frac.Decimal(x)
		if f != want || text != wantText {
			t.Errorf("Decimal(%v): %.60q, %v, want %.60q, %v", x, text, f, wantText, want)
		}
		outcomes[f]++
	}
	checkOutcomes(t, outcomes, none, faultOf(api.ErrRange, 0), faultOf(api.ErrForm, 0), faultOf(api.ErrMany, 0))
}

func TestDecimalOfChosenFaults(t *testing.T) {
	for x, code := range map[api.Frac]int{
		fraction(top+1, 1): api.ErrRange, fraction(-top-1, 5001): api.ErrRange, fraction(1, top+1): api.ErrRange, fraction(0, -top-1): api.ErrRange, fraction(top+1, 0): api.ErrRange,
		fraction(2, 4): api.ErrForm, fraction(0, 2): api.ErrForm, fraction(0, 0): api.ErrForm, fraction(1, 0): api.ErrForm, fraction(1, -1): api.ErrForm, fraction(-3, -8): api.ErrForm, fraction(2, 5002): api.ErrForm, fraction(5001, 5001): api.ErrForm, fraction(top, top): api.ErrForm,
		fraction(1, 5001): api.ErrMany, fraction(-1, 5001): api.ErrMany, fraction(1, top): api.ErrMany, fraction(top-1, top): api.ErrMany, fraction(top, 5001): api.ErrMany, fraction(1, 8192): api.ErrMany,
	} {
		if text, f := frac.Decimal(x); text != "" || f != faultOf(code, 0) {
			t.Errorf("Decimal(%v): %.60q, %v, want %d", x, text, f, code)
		}
	}
}
