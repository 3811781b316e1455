package whole_test

import (
	"fmt"
	"math"
	"math/big"
	"slices"
	"testing"

	"arithmetica/api"
	"arithmetica/sample"
	"arithmetica/whole"
)

const top = api.MaxNum

var none = api.Fault{}

func rangeAt(at int) api.Fault { return api.Fault{Code: api.ErrRange, At: at} }

func isNumber(n int) bool { return -top <= n && n <= top }

func large(n int) *big.Int { return big.NewInt(int64(n)) }

func magnitude(n int) int { return max(n, -n) }

func wantGcd(a, b int) int {
	return int(new(big.Int).GCD(nil, nil, large(magnitude(a)), large(magnitude(b))).Int64())
}

// TestGcdOfChosenNumbers: Gcd of the face.
func TestGcdOfChosenNumbers(t *testing.T) {
	for _, c := range []struct{ a, b, want int }{
		{0, 0, 0}, {0, 7, 7}, {7, 0, 7}, {0, -7, 7}, {-7, 0, 7}, {1, -1, 1}, {12, 18, 6}, {-12, 18, 6}, {12, -18, 6}, {-12, -18, 6},
		{top, 0, top}, {0, -top, top}, {top, top, top}, {-top, top, top}, {-top, -top, top}, {top, top - 1, 1}, {top, 1 << 18, 1 << 18},
		{679891637638612258, 420196140727489673, 1}, // neighbours in Fibonacci's row: the longest way of all
	} {
		if got, f := whole.Gcd(c.a, c.b); got != c.want || f != none {
			t.Errorf("Gcd(%d, %d): %d, %v, want %d", c.a, c.b, got, f, c.want)
		}
	}
}

func TestGcdOfManyNumbers(t *testing.T) {
	for _, a := range sample.Numbers(200) {
		for _, b := range sample.Numbers(200) {
			if got, f := whole.Gcd(a, b); got != wantGcd(a, b) || f != none {
				t.Fatalf("Gcd(%d, %d): %d, %v, want %d", a, b, got, f, wantGcd(a, b))
			}
		}
	}
}

// TestGcdAndBezoutTellTheFirstThatIsNoNumber: ErrRange of the face, and nothing beside a fault.
func TestGcdAndBezoutTellTheFirstThatIsNoNumber(t *testing.T) {
	for _, a := range sample.Edges() {
		for _, b := range sample.Edges() {
			want := none
			if !isNumber(a) {
				want = rangeAt(0)
			} else if !isNumber(b) {
				want = rangeAt(1)
			}
			g, f := whole.Gcd(a, b)
			if f != want || want != none && g != 0 {
				t.Errorf("Gcd(%d, %d): %d, %v, want %v", a, b, g, f, want)
			}
			g, u, v, f := whole.Bezout(a, b)
			if f != want || want != none && (g != 0 || u != 0 || v != 0) {
				t.Errorf("Bezout(%d, %d): %d, %d, %d, %v, want %v", a, b, g, u, v, f, want)
			}
		}
	}
}

// TestBezoutOfChosenNumbers: P1.1.
func TestBezoutOfChosenNumbers(t *testing.T) {
	for _, c := range []struct{ a, b, g, u, v int }{
		{12, -18, 6, 2, 1},
		{0, 0, 0, 0, 0}, {7, 0, 7, 1, 0}, {-7, 0, 7, -1, 0}, {top, 0, top, 1, 0}, {-top, 0, top, -1, 0},
		{0, 7, 7, 0, 1}, {0, -7, 7, 0, -1}, {0, top, top, 0, 1}, {0, -top, top, 0, -1},
		{6, 3, 3, 0, 1}, {6, -3, 3, 0, -1}, {5, 1, 1, 0, 1}, {-5, -1, 1, 0, -1}, {-4, 4, 4, 0, 1},
		{3, 6, 3, 1, 0}, {-3, 6, 3, 1, 1}, {-3, -6, 3, 1, -1},
		{top, top - 1, 1, 1, -1}, {top - 1, top, 1, top - 1, 2 - top}, {-1, top, 1, top - 1, 1}, {-1, -top, 1, top - 1, -1},
	} {
		g, u, v, f := whole.Bezout(c.a, c.b)
		if g != c.g || u != c.u || v != c.v || f != none {
			t.Errorf("Bezout(%d, %d): %d, %d, %d, %v, want %d, %d, %d", c.a, c.b, g, u, v, f, c.g, c.u, c.v)
		}
	}
}

// checkBezout holds an answer against P1.1, without a way of its own to it: u and v are fixed by what is asked of them.
func checkBezout(t *testing.T, a, b int) {
	t.Helper()
	g, u, v, f := whole.Bezout(a, b)
	sum := new(big.Int).Mul(large(u), large(a))
	sum.Add(sum, new(big.Int).Mul(large(v), large(b)))
	if f != none || g != wantGcd(a, b) || sum.Cmp(large(g)) != 0 {
		t.Fatalf("Bezout(%d, %d): %d, %d, %d, %v: the sum is %v", a, b, g, u, v, f, sum)
	}
	if b != 0 && (u < 0 || u >= magnitude(b)/g) {
		t.Fatalf("Bezout(%d, %d): %d, %d, %d: u is not from 0 to below the size of b / g", a, b, g, u, v)
	}
}

func TestBezoutOfManyNumbers(t *testing.T) {
	for a := -60; a <= 60; a++ {
		for b := -60; b <= 60; b++ {
			checkBezout(t, a, b)
		}
	}
	for _, a := range sample.Numbers(200) {
		for _, b := range sample.Numbers(200) {
			checkBezout(t, a, b)
		}
	}
}

// TestPowerOfChosenNumbers: Power of the face.
func TestPowerOfChosenNumbers(t *testing.T) {
	for _, c := range []struct{ a, n, m, want int }{
		{2, 10, 1000, 24}, {-2, 3, 10, 2}, {-2, 3, 5, 2}, {-1, 1, top, top - 1}, {-1, top, top, 1}, {-1, top - 1, top, top - 1},
		{0, 0, 7, 1}, {0, 5, 7, 0}, {7, 5, 7, 0}, {-7, 5, 7, 0}, {5, 0, 7, 1},
		{0, 0, 1, 0}, {5, 0, 1, 0}, {5, 9, 1, 0}, {-top, top, 1, 0},
		{2, 64, top, 446744073709551616}, {top - 1, 2, top, 1}, {top, 2, top - 1, 1}, {-top, 3, top - 1, top - 2},
		{2, top - 12, top - 11, 1}, // by the greatest prime up to MaxNum
	} {
		if got, f := whole.Power(c.a, c.n, c.m); got != c.want || f != none {
			t.Errorf("Power(%d, %d, %d): %d, %v, want %d", c.a, c.n, c.m, got, f, c.want)
		}
	}
}

func TestPowerOfManyNumbers(t *testing.T) {
	for _, a := range sample.Numbers(20) {
		for _, n := range sample.Numbers(20) {
			for _, m := range sample.Numbers(20) {
				if n < 0 || m < 1 {
					continue
				}
				base := new(big.Int).Mod(large(a), large(m))
				want := new(big.Int).Exp(base, large(n), large(m)).Int64()
				if got, f := whole.Power(a, n, m); int64(got) != want || f != none {
					t.Fatalf("Power(%d, %d, %d): %d, %v, want %d", a, n, m, got, f, want)
				}
			}
		}
	}
}

func TestPowerTellsItsFaultsInOrder(t *testing.T) {
	for _, c := range []struct{ a, n, m, at int }{
		{top + 1, 1, 5, 0}, {-top - 1, 1, 5, 0}, {math.MinInt, 1, 5, 0}, {math.MaxInt, 1, 5, 0},
		{2, top + 1, 5, 1}, {2, -top - 1, 5, 1}, {2, math.MinInt, 5, 1},
		{2, 1, top + 1, 2}, {2, 1, -top - 1, 2}, {2, 1, math.MinInt, 2},
		{2, -1, 5, 1}, {2, -top, 5, 1}, {2, 1, 0, 2}, {2, 1, -1, 2}, {2, 1, -top, 2}, {0, 0, 0, 2},
		{2, -1, 0, 1}, {2, -1, -5, 1},
		// what is no number is told ahead of what is only below its bound
		{2, -1, top + 1, 2}, {2, -1, math.MinInt, 2}, {top + 1, -1, 0, 0}, {top + 1, top + 1, top + 1, 0}, {2, top + 1, 0, 1}, {2, top + 1, top + 1, 1},
	} {
		if got, f := whole.Power(c.a, c.n, c.m); got != 0 || f != rangeAt(c.at) {
			t.Errorf("Power(%d, %d, %d): %d, %v, want ErrRange at %d", c.a, c.n, c.m, got, f, c.at)
		}
	}
}

// TestInverseOfChosenNumbers: P1.2, and its faults in their order.
func TestInverseOfChosenNumbers(t *testing.T) {
	noInverse := api.Fault{Code: api.ErrNone}
	for _, c := range []struct {
		a, m, want int
		f          api.Fault
	}{
		{3, 10, 7, none}, {-3, 10, 3, none}, {13, 10, 7, none}, {1, 2, 1, none}, {-1, 2, 1, none}, {-1, top, top - 1, none},
		{0, 1, 0, none}, {1, 1, 0, none}, {-5, 1, 0, none}, {top, 1, 0, none}, {-top, 1, 0, none},
		{top, top - 1, 1, none}, {-top, top - 1, top - 2, none}, {top - 1, top, top - 1, none},
		{0, 2, 0, noInverse}, {4, 10, 0, noInverse}, {-4, 10, 0, noInverse}, {10, 10, 0, noInverse}, {top, top, 0, noInverse}, {-top, 2, 0, noInverse},
		{top + 1, 10, 0, rangeAt(0)}, {-top - 1, 10, 0, rangeAt(0)}, {math.MinInt, 10, 0, rangeAt(0)},
		{3, top + 1, 0, rangeAt(1)}, {3, -top - 1, 0, rangeAt(1)}, {3, math.MinInt, 0, rangeAt(1)},
		{3, 0, 0, rangeAt(1)}, {3, -1, 0, rangeAt(1)}, {3, -10, 0, rangeAt(1)}, {0, 0, 0, rangeAt(1)}, {4, -10, 0, rangeAt(1)},
		{top + 1, 0, 0, rangeAt(0)}, {top + 1, top + 1, 0, rangeAt(0)},
	} {
		if got, f := whole.Inverse(c.a, c.m); got != c.want || f != c.f {
			t.Errorf("Inverse(%d, %d): %d, %v, want %d, %v", c.a, c.m, got, f, c.want, c.f)
		}
	}
}

func TestInverseOfManyNumbers(t *testing.T) {
	for _, a := range sample.Numbers(200) {
		for _, m := range sample.Numbers(200) {
			if m < 1 {
				continue
			}
			got, f := whole.Inverse(a, m)
			if wantGcd(a, m) != 1 {
				if got != 0 || f != (api.Fault{Code: api.ErrNone}) {
					t.Fatalf("Inverse(%d, %d): %d, %v, want ErrNone at 0", a, m, got, f)
				}
				continue
			}
			gap := new(big.Int).Mul(large(a), large(got))
			gap.Sub(gap, big.NewInt(1)).Mod(gap, large(m))
			if f != none || got < 0 || got >= m || gap.Sign() != 0 {
				t.Fatalf("Inverse(%d, %d): %d, %v", a, m, got, f)
			}
		}
	}
}

// repeat answers a list of so many times n.
func repeat(n, many int) []int { return slices.Repeat([]int{n}, many) }

// TestJoinOfChosenLists: P1.3.
func TestJoinOfChosenLists(t *testing.T) {
	for _, c := range []struct {
		rests, mods []int
		rest, mod   int
	}{
		{nil, nil, 0, 1}, {[]int{}, []int{}, 0, 1}, {nil, []int{}, 0, 1},
		{[]int{2, 3, 2}, []int{3, 5, 7}, 23, 105}, {[]int{-1, -2, 9}, []int{3, 5, 7}, 23, 105},
		{[]int{5}, []int{1}, 0, 1}, {[]int{-top}, []int{1}, 0, 1}, {[]int{-1}, []int{top}, top - 1, top}, {[]int{top}, []int{top}, 0, top}, {[]int{-top}, []int{top - 1}, top - 2, top - 1},
		{[]int{1, 3}, []int{4, 6}, 9, 12}, {[]int{3, 3}, []int{8, 4}, 3, 8}, {[]int{3, 7}, []int{4, 8}, 7, 8}, {[]int{2, 2}, []int{6, 6}, 2, 6},
		{[]int{-top, top}, []int{top, top}, 0, top}, {[]int{-1, -1}, []int{1000000000, top}, top - 1, top}, {[]int{top - 1, -top}, []int{top, 1}, top - 1, top},
		{[]int{-1, -1}, []int{1 << 18, 3814697265625}, top - 1, top}, {[]int{999999998, 999999999}, []int{999999999, 1000000000}, 999999998999999999, 999999999000000000},
		{repeat(4, api.MaxList), repeat(9, api.MaxList), 4, 9}, {repeat(0, api.MaxList), repeat(1, api.MaxList), 0, 1},
	} {
		rest, mod, f := whole.Join(c.rests, c.mods)
		if rest != c.rest || mod != c.mod || f != none {
			t.Errorf("Join(%v; %v): %d of %d, %v, want %d of %d", c.rests, c.mods, rest, mod, f, c.rest, c.mod)
		}
	}
}

// TestJoinTellsItsFaultsInOrder: the faults of P1.3.
func TestJoinTellsItsFaultsInOrder(t *testing.T) {
	at := func(code, at int) api.Fault { return api.Fault{Code: code, At: at} }
	bad := repeat(0, api.MaxList)
	for _, c := range []struct {
		rests, mods []int
		want        api.Fault
	}{
		{repeat(0, api.MaxList+1), repeat(1, api.MaxList+1), at(api.ErrMany, 0)},
		{repeat(0, api.MaxList+1), repeat(1, api.MaxList), at(api.ErrMany, 0)}, {repeat(0, api.MaxList), repeat(1, api.MaxList+1), at(api.ErrMany, 0)},
		{repeat(0, api.MaxList+1), nil, at(api.ErrMany, 0)}, {nil, repeat(0, api.MaxList+1), at(api.ErrMany, 0)},
		{repeat(0, api.MaxList), repeat(1, api.MaxList-1), at(api.ErrSize, 0)}, {[]int{1}, nil, at(api.ErrSize, 0)}, {nil, []int{1}, at(api.ErrSize, 0)},
		{[]int{top + 1}, []int{0, 0}, at(api.ErrSize, 0)}, {bad, bad, at(api.ErrRange, 0)},
		{[]int{top + 1}, []int{3}, at(api.ErrRange, 0)}, {[]int{-top - 1}, []int{3}, at(api.ErrRange, 0)}, {[]int{math.MinInt}, []int{1}, at(api.ErrRange, 0)}, {[]int{math.MaxInt}, []int{1}, at(api.ErrRange, 0)},
		{[]int{1}, []int{0}, at(api.ErrRange, 0)}, {[]int{1}, []int{-3}, at(api.ErrRange, 0)}, {[]int{1}, []int{top + 1}, at(api.ErrRange, 0)}, {[]int{1}, []int{math.MinInt}, at(api.ErrRange, 0)},
		{[]int{1, 1, 1}, []int{2, 3, 0}, at(api.ErrRange, 2)}, {[]int{1, 1, top + 1}, []int{2, 3, 5}, at(api.ErrRange, 2)},
		{[]int{1, 2}, []int{4, 6}, at(api.ErrNone, 1)}, {[]int{1, 2}, []int{top, top}, at(api.ErrNone, 1)}, {[]int{-top, top - 1}, []int{top, top}, at(api.ErrNone, 1)},
		{[]int{1, 2, 3, 0}, []int{2, 3, 5, 30}, at(api.ErrNone, 3)},
		{[]int{0, 0}, []int{top, 3}, at(api.ErrMuch, 1)}, {[]int{0, 0}, []int{top, top - 1}, at(api.ErrMuch, 1)}, {[]int{0, 0}, []int{1000000000, 1000000001}, at(api.ErrMuch, 1)},
		{[]int{0, 0, 0}, []int{1 << 18, 3814697265625, 3}, at(api.ErrMuch, 2)},
		// at one place: ErrRange, then ErrNone, then ErrMuch
		{[]int{0, 1}, []int{top, 1<<18 - 2}, at(api.ErrNone, 1)}, {[]int{0, top + 1}, []int{top, 6}, at(api.ErrRange, 1)}, {[]int{0, 1}, []int{2, top + 2}, at(api.ErrRange, 1)},
		// an earlier place's fault ahead of every later one's
		{[]int{1, 2, top + 1}, []int{4, 6, 0}, at(api.ErrNone, 1)}, {[]int{0, 0, 0}, []int{top, 3, 0}, at(api.ErrMuch, 1)}, {[]int{0, 0, 1}, []int{top, 3, 2}, at(api.ErrMuch, 1)}, {[]int{1, 2, 0}, []int{4, 6, top}, at(api.ErrNone, 1)},
		{append(repeat(1, api.MaxList-1), 2), repeat(9, api.MaxList), at(api.ErrNone, api.MaxList-1)},
	} {
		rest, mod, f := whole.Join(c.rests, c.mods)
		if rest != 0 || mod != 0 || f != c.want {
			t.Errorf("Join(%v; %v): %d of %d, %v, want %v", c.rests, c.mods, rest, mod, f, c.want)
		}
	}
}

// searchJoin goes through all numbers below the least that all mods divide.
func searchJoin(rests, mods []int) (rest, mod, noneAt int) {
	mod = 1
	for i, m := range mods {
		mod = mod / wantGcd(mod, m) * m
		for rest = 0; rest < mod && !goesWith(rest, rests[:i+1], mods[:i+1]); rest++ {
		}
		if rest == mod {
			return 0, 0, i
		}
	}
	return rest, mod, -1
}

func goesWith(n int, rests, mods []int) bool {
	for i, m := range mods {
		if (n-rests[i])%m != 0 {
			return false
		}
	}
	return true
}

func TestJoinOfAllShortLists(t *testing.T) {
	for code := range 12 * 12 * 12 {
		mods := []int{code%12 + 1, code/12%12 + 1, code/144 + 1}
		for _, rests := range [][]int{{0, 0, 0}, {1, 1, 1}, {5, -3, 11}, {-7, 2, 4}, {8, 6, -20}} {
			wantRest, wantMod, noneAt := searchJoin(rests, mods)
			want := none
			if noneAt >= 0 {
				want = api.Fault{Code: api.ErrNone, At: noneAt}
			}
			rest, mod, f := whole.Join(rests, mods)
			if rest != wantRest || mod != wantMod || f != want {
				t.Fatalf("Join(%v; %v): %d of %d, %v, want %d of %d, %v", rests, mods, rest, mod, f, wantRest, wantMod, want)
			}
		}
	}
}

// TestJoinOfTwoLongOnes takes what one number leaves, so that it must come out again, left by the joint mod.
func TestJoinOfTwoLongOnes(t *testing.T) {
	l := sample.Numbers(150)
	for i, n := range l {
		for j, m := range l {
			first, second := magnitude(m), magnitude(l[(i+j)%len(l)])
			if first == 0 || second == 0 {
				continue
			}
			joint := new(big.Int).Mul(large(first/wantGcd(first, second)), large(second))
			rest, mod, f := whole.Join([]int{n % first, n % second}, []int{first, second})
			if joint.Cmp(large(top)) > 0 {
				if rest != 0 || mod != 0 || f != (api.Fault{Code: api.ErrMuch, At: 1}) {
					t.Fatalf("Join of %d by %d, %d: %d of %d, %v, want ErrMuch at 1", n, first, second, rest, mod, f)
				}
				continue
			}
			want := new(big.Int).Mod(large(n), joint)
			if f != none || large(mod).Cmp(joint) != 0 || large(rest).Cmp(want) != 0 {
				t.Fatalf("Join of %d by %d, %d: %d of %d, %v, want %v of %v", n, first, second, rest, mod, f, want, joint)
			}
		}
	}
}

// TestJoinOnlyReads hands in lists with more memory behind them, which is neither read nor written.
func TestJoinOnlyReads(t *testing.T) {
	rests, mods := []int{2, 3, 2, math.MinInt}, []int{3, 5, 7, 0}
	rest, mod, f := whole.Join(rests[:3], mods[:3])
	if rest != 23 || mod != 105 || f != none {
		t.Errorf("Join: %d of %d, %v, want 23 of 105", rest, mod, f)
	}
	if !slices.Equal(rests, []int{2, 3, 2, math.MinInt}) || !slices.Equal(mods, []int{3, 5, 7, 0}) {
		t.Errorf("Join has changed its lists: %v; %v", rests, mods)
	}
}

// TestRootOfChosenNumbers: Root of the face.
func TestRootOfChosenNumbers(t *testing.T) {
	for _, c := range []struct{ n, k, want int }{
		{80, 4, 2}, {81, 4, 3}, {82, 4, 3}, {0, 1, 0}, {0, 2, 0}, {0, 60, 0}, {1, 1, 1}, {1, 2, 1}, {1, 60, 1}, {2, 60, 1}, {3, 2, 1}, {4, 2, 2},
		{top, 1, top}, {top - 1, 1, top - 1}, {top, 2, 1000000000}, {top - 1, 2, 999999999}, {999999999999999999, 3, 999999}, {top, 3, 1000000},
		{top, 6, 1000}, {top, 9, 100}, {top, 18, 10}, {top - 1, 18, 9}, {top, 37, 3}, {top, 38, 2},
		{1 << 59, 59, 2}, {1<<59 - 1, 59, 1}, {top, 59, 2}, {top, 60, 1},
	} {
		if got, f := whole.Root(c.n, c.k); got != c.want || f != none {
			t.Errorf("Root(%d, %d): %d, %v, want %d", c.n, c.k, got, f, c.want)
		}
	}
}

func TestRootOfManyNumbers(t *testing.T) {
	above := func(x, k, n int) bool { return new(big.Int).Exp(large(x), large(k), nil).Cmp(large(n)) > 0 }
	for k := 1; k <= 60; k++ {
		for _, n := range sample.Numbers(300) {
			n = magnitude(n)
			got, f := whole.Root(n, k)
			if f != none || got < 0 || above(got, k, n) || !above(got+1, k, n) {
				t.Fatalf("Root(%d, %d): %d, %v", n, k, got, f)
			}
		}
	}
}

func TestRootTurnsJustAtPowers(t *testing.T) {
	for k := 2; k <= 59; k++ {
		for x := 2; x <= 1000; x++ {
			p := new(big.Int).Exp(large(x), large(k), nil)
			if p.Cmp(large(top)) > 0 {
				break
			}
			n := int(p.Int64())
			at, _ := whole.Root(n, k)
			before, _ := whole.Root(n-1, k)
			if at != x || before != x-1 {
				t.Fatalf("Root of %d to the power of %d: %d, and of one less: %d", x, k, at, before)
			}
		}
	}
}

func TestRootTellsItsFaultsInOrder(t *testing.T) {
	for _, c := range []struct{ n, k, at int }{
		{-1, 2, 0}, {-8, 3, 0}, {-top, 1, 0}, {-top - 1, 1, 0}, {top + 1, 1, 0}, {math.MinInt, 1, 0}, {math.MaxInt, 1, 0},
		{5, 0, 1}, {5, -1, 1}, {5, 61, 1}, {5, top, 1}, {5, -top, 1}, {5, top + 1, 1}, {5, math.MinInt, 1}, {5, math.MaxInt, 1}, {0, 0, 1}, {0, 61, 1},
		{-1, 0, 0}, {-1, 61, 0}, {top + 1, 0, 0}, {-1, top + 1, 0}, {math.MinInt, math.MinInt, 0},
	} {
		if got, f := whole.Root(c.n, c.k); got != 0 || f != rangeAt(c.at) {
			t.Errorf("Root(%d, %d): %d, %v, want ErrRange at %d", c.n, c.k, got, f, c.at)
		}
	}
}

// answers calls all of the face on three arguments, and tells what they answer.
func answers(a, b, c int) string {
	var l []any
	tell := func(parts ...any) { l = append(l, parts...) }
	gcd, f := whole.Gcd(a, b)
	tell(gcd, f)
	g, u, v, f := whole.Bezout(a, b)
	tell(g, u, v, f)
	power, f := whole.Power(a, b, c)
	tell(power, f)
	inverse, f := whole.Inverse(a, b)
	tell(inverse, f)
	rest, mod, f := whole.Join([]int{a, b}, []int{b, c})
	tell(rest, mod, f)
	root, f := whole.Root(a, b)
	tell(root, f)
	return fmt.Sprintln(l...)
}

// TestNoCallPanics goes through all edges, those that are no numbers too (P1); the same arguments have the same answers.
func TestNoCallPanics(t *testing.T) {
	for _, a := range sample.Edges() {
		for _, b := range sample.Edges() {
			for _, c := range sample.Edges() {
				if first, second := answers(a, b, c), answers(a, b, c); first != second {
					t.Errorf("of %d, %d, %d: %v, then %v", a, b, c, first, second)
				}
			}
		}
	}
}
