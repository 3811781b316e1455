package padic_test

import (
	"slices"
	"testing"

	"arithmetica/api"
	"arithmetica/padic"
)

// wrongRoots tells what Roots must say of its arguments ahead of looking for roots.
func wrongRoots(p, k int, l []int) api.Fault {
	if f := wrongPolynomial(p, k, l); f != none {
		return f
	}
	if p > tiny {
		return faultOf(api.ErrMany, 0)
	}
	return none
}

// triedRoots tries all numbers from 0 to M - 1, for small M.
func triedRoots(m power, l []int) []int {
	number := m.number()
	var left []int
	for _, n := range l {
		left = append(left, n%number)
	}
	var list []int
	for x := range number {
		sum := 0
		for _, n := range slices.Backward(left) {
			sum = (sum*x + n) % number
		}
		if sum == 0 {
			list = append(list, x)
		}
	}
	return list
}

// wantTried answers what Roots must answer, by trying all by each power up to M.
func wantTried(m power, l []int) ([]int, api.Fault) {
	var list []int
	for j := 1; j <= m.k; j++ {
		list = triedRoots(power{m.p, j}, l)
		if len(list) > 1000 {
			return nil, faultOf(api.ErrMuch, 0)
		}
	}
	return list, none
}

// expected is what Roots must answer.
type expected struct {
	list []int
	f    api.Fault
}

// climbed answers the same for great M, by each power of p up to MaxNum, the lowest first: what leaves 0 by one power leaves 0 by the one below it, so that of each root there all numbers above it are tried, by long numbers.
func climbed(p int, l []int) []expected {
	var answers []expected
	now := expected{list: []int{0}}
	for step := 1; step <= top/p; step *= p {
		if now.f == none {
			now = expected{list: triedAbove(now.list, step, p, l)}
		}
		if len(now.list) > 1000 {
			now = expected{f: faultOf(api.ErrMuch, 0)}
		}
		answers = append(answers, now)
	}
	return answers
}

func triedAbove(list []int, step, p int, l []int) []int {
	var above []int
	for t := range p {
		for _, root := range list {
			if value(l, root+t*step, step*p) == 0 {
				above = append(above, root+t*step)
			}
		}
	}
	slices.Sort(above)
	return above
}

// outcome is what sort of answer a call gave.
type outcome int

const (
	rootless outcome = iota
	single
	several
	toomuch
)

func outcomeOf(list []int, f api.Fault) outcome {
	switch {
	case f != none:
		return toomuch
	case len(list) == 0:
		return rootless
	case len(list) == 1:
		return single
	}
	return several
}

func checkOutcomes(t *testing.T, outcomes map[outcome]int, least int) {
	t.Helper()
	for _, o := range []outcome{rootless, single, several, toomuch} {
		if outcomes[o] < least {
			t.Errorf("the outcome %d comes only %d times", o, outcomes[o])
		}
	}
}

// checkRoots holds Roots against what it must answer.
func checkRoots(t *testing.T, m power, l, want []int, wanted api.Fault) outcome {
	t.Helper()
	list, f := padic.Roots(m.p, m.k, l)
	if !slices.Equal(list, want) || f != wanted {
		t.Fatalf("Roots(%d, %d, %v): %v, %v, want %v, %v", m.p, m.k, l, list, f, want, wanted)
	}
	return outcomeOf(list, f)
}

// shaped answers polynomials with numbers of all lengths, and those that leave 0 at many numbers by p.
func shaped(p, many int) [][]int {
	list := drawnPolynomials(many)
	for _, l := range list {
		for times := 1; raised(p, times) <= 5000; times++ {
			list = append(list, steep(l, p, times, false), steep(l, p, times, true))
		}
	}
	return list
}

// TestRootsByTryingAll: P10.3 with small M, and polynomials of all lengths.
func TestRootsByTryingAll(t *testing.T) {
	outcomes := map[outcome]int{}
	for _, m := range powersOf(2500, 2, 3, 5, 7, 11, 13, 31, 43, 47, 97, 499, 997, 1009, 1999) {
		for _, l := range shaped(m.p, 1) {
			want, wanted := wantTried(m, l)
			outcomes[checkRoots(t, m, l, want, wanted)]++
		}
	}
	checkOutcomes(t, outcomes, 50)
}

// TestRootsOfAllSquares: P10.3 with all a x^2 + b x + c by small powers.
func TestRootsOfAllSquares(t *testing.T) {
	for _, m := range powersOf(27, primesUpTo(27)...) {
		for a := range m.number() {
			for b := range m.number() {
				for c := range m.number() {
					l := []int{c - m.number(), b, a}
					checkRoots(t, m, l, triedRoots(m, l), none)
				}
			}
		}
	}
}

// checkClimbed holds Roots against what climbed answers, by each power of p.
func checkClimbed(t *testing.T, p int, l []int, outcomes map[outcome]int) {
	t.Helper()
	for i, want := range climbed(p, l) {
		outcomes[checkRoots(t, power{p, i + 1}, l, want.list, want.f)]++
	}
}

// TestRootsOfAllLengths: P10.3 by all powers of small primes.
func TestRootsOfAllLengths(t *testing.T) {
	outcomes := map[outcome]int{}
	for _, p := range []int{2, 3, 5, 7, 11, 13, 31, 61, 97} {
		for i, l := range drawnPolynomials(2) {
			checkClimbed(t, p, l, outcomes)
			checkClimbed(t, p, steep(l, p, i%5, false), outcomes)
			checkClimbed(t, p, steep(l, p, i%7, true), outcomes)
		}
	}
	checkOutcomes(t, outcomes, 300)
}

// TestRootsByGreatPrimes: P10.3 by the tiny primes that are next to MaxList and to MaxTiny.
func TestRootsByGreatPrimes(t *testing.T) {
	outcomes := map[outcome]int{}
	for _, p := range []int{367, 499, 991, 997, 1009, 1999} {
		for i, l := range drawnPolynomials(2) {
			if i%2 == 1 && len(l) > 0 {
				l = through(l, p, i%p)
			}
			checkClimbed(t, p, l, outcomes)
		}
	}
	checkOutcomes(t, outcomes, 20)
}

// TestRootsFindKnownOnes: P10.3 where all roots are known, however great M is.
func TestRootsFindKnownOnes(t *testing.T) {
	for _, m := range powersOf(top, chosenPrimes()...) {
		if m.p > tiny {
			continue
		}
		for many := range 13 {
			list := differing(m, many)
			l := polynomialAt(list, m.number())
			slices.Sort(list)
			checkRoots(t, m, l, list, none)
		}
	}
}

// counted is a polynomial that leaves 0, left by m or by a power below it, at so many numbers.
type counted struct {
	m    power
	l    []int
	many int
}

// checkMany holds Roots against how many there are: so many numbers that rise and at which the polynomial leaves 0 are all.
func checkMany(t *testing.T, c counted) {
	t.Helper()
	m, l, many := c.m, c.l, c.many
	list, f := padic.Roots(m.p, m.k, l)
	if many > 1000 {
		if len(list) != 0 || f != faultOf(api.ErrMuch, 0) {
			t.Errorf("Roots(%d, %d, %v): %d numbers, %v, want ErrMuch at 0", m.p, m.k, l, len(list), f)
		}
		return
	}
	if len(list) != many || f != none {
		t.Errorf("Roots(%d, %d, %v): %d numbers, %v, want %d", m.p, m.k, l, len(list), f, many)
		return
	}
	last := -1
	for _, x := range list {
		if x <= last || x >= m.number() || value(l, x, m.number()) != 0 {
			t.Fatalf("Roots(%d, %d, %v): %d stands after %d", m.p, m.k, l, x, last)
		}
		last = x
	}
}

// twice answers the polynomial that leaves 0 at each of list, at the first ones twice.
func twice(list []int, first int, m power) []int {
	return polynomialAt(append(slices.Clone(list[:first]), list...), m.number())
}

// scaled answers l with all its numbers multiplied.
func scaled(l []int, n int) []int {
	var answer []int
	for _, term := range l {
		answer = append(answer, term*n)
	}
	return answer
}

// TestRootsTurnAtMaxList: P10.3 with just MaxList roots, and with one more.
//
// A root that is there twice is one by p, and all numbers that leave it by p are roots by p^2, and as many by p^3; by p^4 they are p times as many.
func TestRootsTurnAtMaxList(t *testing.T) {
	places := []int{0, 1, 2, 3, 4, 5, 6, 7, 8, 9, 10}
	squares := []int{0, 0, 1}
	for _, c := range []counted{
		{power{997, 2}, twice(places[:3], 1, power{997, 2}), 999},
		{power{997, 2}, twice(places[:4], 1, power{997, 2}), 1000},
		{power{997, 2}, twice(places[:5], 1, power{997, 2}), 1001},
		{power{997, 1}, twice(places[:5], 1, power{997, 1}), 5},
		{power{997, 3}, twice(places[:4], 1, power{997, 3}), 1000},
		{power{997, 3}, twice(places[:5], 1, power{997, 3}), 1001},
		{power{997, 4}, twice(places[:4], 1, power{997, 4}), 997*997 + 3},
		{power{991, 2}, twice(places[:10], 1, power{991, 2}), 1000},
		{power{991, 3}, twice(places[:11], 1, power{991, 3}), 1001},
		{power{499, 2}, twice(places[:4], 2, power{499, 2}), 1000},
		{power{499, 3}, twice(places[:5], 2, power{499, 3}), 1001},
		{power{1009, 2}, squares, 1009},
		{power{1009, 1}, squares, 1},
		{power{1999, 5}, []int{-1, 0, 1}, 2},
		{power{997, 1}, nil, 997},
		{power{997, 2}, nil, 997 * 997},
		{power{1009, 1}, nil, 1009},
		{power{1009, 1}, []int{1009, -2018}, 1009},
		{power{1999, 1}, []int{0}, 1999},
		{power{2, 9}, nil, 512},
		{power{2, 10}, nil, 1024},
		{power{2, 59}, nil, 1 << 59},
		{power{2, 18}, squares, 512},
		{power{2, 19}, squares, 512},
		{power{2, 20}, squares, 1024},
		{power{3, 12}, squares, 729},
		{power{3, 14}, squares, 2187},
		{power{5, 4}, scaled(twice(places[:4], 1, power{5, 2}), 125), 500},
		{power{5, 5}, scaled(twice(places[:4], 1, power{5, 2}), 125), 1000},
		{power{5, 6}, scaled(twice(places[:4], 1, power{5, 3}), 125), 1000},
		{power{5, 7}, scaled(twice(places[:4], 1, power{5, 4}), 125), 3500},
	} {
		checkMany(t, c)
	}
}

// TestRootsTurnByManyPowers: just MaxList and one more or less, where the roots hang on more than one power, found by trying all.
func TestRootsTurnByManyPowers(t *testing.T) {
	for _, c := range []counted{
		{power{5, 5}, scaled([]int{0, 0, -6, 11, -6, 1}, 125), 1000},
		{power{3, 8}, []int{0, -540, 648, -243, 27}, 999},
		{power{3, 9}, []int{0, -540, 648, -243, 27}, 999},
		{power{3, 7}, []int{0, 0, 0, 0, 54000, -117900, 110280, -57817, 18609, -3770, 470, -33, 1}, 1000},
		{power{3, 7}, []int{5598720, -20248704, 32985792, -31998240, 20584368, -9251064, 2978628, -692422, 115371, -13442, 1040, -48, 1}, 1000},
		{power{7, 5}, []int{1542096793036800, -1948467600092160, 964592965179648, -255440911017600, 41405182283752, -4407345586140, 319797883034, -16075625265, 559151691, -13189050, 201068, -1785, 7}, 1001},
		{power{11, 4}, []int{0, 50386341194481600, -19842477758483688, 3140722188216558, -268183393134393, 13817603701187, -452200828717, 9591103291, -131139547, 1113673, -5335, 11}, 1001},
		{power{11, 5}, []int{0, 50386341194481600, -19842477758483688, 3140722188216558, -268183393134393, 13817603701187, -452200828717, 9591103291, -131139547, 1113673, -5335, 11}, 1001},
	} {
		if list := triedRoots(c.m, c.l); len(list) != c.many {
			t.Errorf("%v leaves 0 at %d numbers by %v, not at %d", c.l, len(list), c.m, c.many)
		}
		checkMany(t, c)
	}
}

// TestRootsTellTooManyOnTheWay: a lower power with more than MaxList roots is told, however few there are by M; what is just within is not.
func TestRootsTellTooManyOnTheWay(t *testing.T) {
	for _, c := range []counted{
		{power{2, 9}, []int{512}, 512},
		{power{2, 10}, []int{512}, 0},
		{power{2, 59}, []int{512}, 0},
		{power{2, 9}, []int{1024}, 512},
		{power{2, 10}, []int{1024}, 1024},
		{power{2, 11}, []int{1024}, 1024}, // by 2^10
		{power{2, 59}, []int{1024}, 1024},
		{power{997, 1}, []int{997}, 997},
		{power{997, 2}, []int{997}, 0},
		{power{997, 6}, []int{997}, 0},
		{power{997, 2}, []int{997 * 997}, 997 * 997},
		{power{997, 3}, []int{997 * 997}, 997 * 997}, // by 997^2
		{power{1009, 1}, []int{1009}, 1009},
		{power{1009, 2}, []int{1009}, 1009}, // by 1009
		{power{1009, 5}, []int{1009, 0, 1009}, 1009},
		{power{1009, 3}, []int{1009, 0, 1}, 0},            // one by 1009, none above it
		{power{1009, 3}, []int{-1009 * 1009, 0, 1}, 1009}, // by 1009^2
		{power{997, 3}, []int{-997 * 997, 0, 1}, 2 * 997},
		{power{499, 3}, []int{-499 * 499, 0, 1}, 2 * 499},
		{power{499, 4}, []int{-499 * 499, 0, 1}, 2 * 499},
		{power{499, 5}, []int{-499 * 499, 0, 1}, 2 * 499},
		{power{499, 3}, []int{499 * 499, 0, 1}, 0}, // 499 by 499^2, none above them
		{power{997, 2}, []int{997 * 997, 0, -6, 11, -6, 1}, 1000},
		{power{997, 3}, []int{997 * 997, 0, -6, 11, -6, 1}, 3}, // just MaxList by 997^2, of which only 3 have one above them
		{power{997, 6}, []int{997 * 997, 0, -6, 11, -6, 1}, 3},
		{power{997, 1}, []int{997 * 997, 0, 24, -50, 35, -10, 1}, 5},
		{power{997, 2}, []int{997 * 997, 0, 24, -50, 35, -10, 1}, 1001},
		{power{997, 3}, []int{997 * 997, 0, 24, -50, 35, -10, 1}, 1001}, // by 997^2: one more, of which only 4 have one above them
		{power{997, 6}, []int{997 * 997, 0, 24, -50, 35, -10, 1}, 1001},
	} {
		checkMany(t, c)
	}
}

// TestWildRoots: P1, and the order of the faults.
func TestWildRoots(t *testing.T) {
	for _, p := range wildPrimes() {
		for _, k := range wildExponents() {
			for _, l := range wildPolynomials() {
				want := wrongRoots(p, k, l)
				list, f := padic.Roots(p, k, l)
				if want != none && (len(list) != 0 || f != want) {
					t.Fatalf("Roots(%d, %d, %v): %v, %v, want %v", p, k, l, list, f, want)
				}
				if want == none && f != none && (len(list) != 0 || f != faultOf(api.ErrMuch, 0)) {
					t.Fatalf("Roots(%d, %d, %v): %v, %v", p, k, l, list, f)
				}
			}
		}
	}
}

func TestChosenRoots(t *testing.T) {
	for _, c := range []struct {
		p, k int
		l    []int
		want []int
	}{
		{2, 3, []int{-1, 0, 1}, []int{1, 3, 5, 7}},
		{2, 1, nil, []int{0, 1}},
		{2, 3, []int{}, []int{0, 1, 2, 3, 4, 5, 6, 7}},
		{2, 3, []int{8, -16}, []int{0, 1, 2, 3, 4, 5, 6, 7}},
		{2, 3, []int{4}, nil},
		{2, 2, []int{4}, []int{0, 1, 2, 3}},
		{2, 59, []int{1}, nil},
		{2, 59, []int{-1, 0, 1}, []int{1, 1<<58 - 1, 1<<58 + 1, 1<<59 - 1}},
		{2, 59, []int{0, -1, 1}, []int{0, 1}},
		{3, 3, []int{-9, 0, 1}, []int{3, 6, 12, 15, 21, 24}},
		{3, 2, []int{-3, 0, 1}, nil}, // one by 3, none above it
		{3, 1, []int{-3, 0, 1}, []int{0}},
		{3, 2, []int{0, 0, 1}, []int{0, 3, 6}},
		{5, 2, []int{1, 0, 1}, []int{7, 18}},
		{5, 25, []int{1, 0, 1}, []int{109561565064733307, 188461658812219818}},
		{7, 3, []int{-2, 0, 1}, []int{108, 235}},
		{7, 1, []int{-1, 0, 0, 0, 0, 0, 1}, []int{1, 2, 3, 4, 5, 6}},
		{7, 1, []int{0, -1, 0, 0, 0, 0, 0, 1}, []int{0, 1, 2, 3, 4, 5, 6}},
		{7, 1, []int{3, 0, 0, 0, 0, 0, 1}, nil},
		{1999, 1, []int{-1998, 1}, []int{1998}},
		{1999, 5, []int{1, 1}, []int{raised(1999, 5) - 1}},
		{1999, 5, []int{0, 1}, []int{0}},
	} {
		if list, f := padic.Roots(c.p, c.k, c.l); !slices.Equal(list, c.want) || f != none {
			t.Errorf("Roots(%d, %d, %v): %v, %v, want %v", c.p, c.k, c.l, list, f, c.want)
		}
	}
}

func TestWrongRoots(t *testing.T) {
	fourteen := append(slices.Repeat([]int{0}, 13), top+1)
	for _, c := range []struct {
		p, k int
		l    []int
		want api.Fault
	}{
		{1, 0, fourteen, faultOf(api.ErrRange, 0)},
		{1000003, 1, nil, faultOf(api.ErrRange, 0)},
		{2001, 0, fourteen, faultOf(api.ErrKind, 0)},
		{2003, 0, fourteen, faultOf(api.ErrRange, 1)},
		{2003, 61, fourteen, faultOf(api.ErrRange, 1)},
		{2003, 60, fourteen, faultOf(api.ErrMuch, 1)},
		{2003, 6, nil, faultOf(api.ErrMuch, 1)},
		{2003, 5, fourteen, faultOf(api.ErrMany, 2)},
		{2, 10, slices.Repeat([]int{0}, 14), faultOf(api.ErrMany, 2)},
		{2003, 5, fourteen[1:], faultOf(api.ErrRange, 2)},
		{2, 10, []int{-top - 1}, faultOf(api.ErrRange, 2)},
		{2003, 5, nil, faultOf(api.ErrMany, 0)}, // ahead of what is too much
		{2003, 1, []int{1}, faultOf(api.ErrMany, 0)},
		{999983, 3, []int{0, 1}, faultOf(api.ErrMany, 0)},
		{1999, 1, nil, faultOf(api.ErrMuch, 0)},
		{2, 10, nil, faultOf(api.ErrMuch, 0)},
	} {
		if list, f := padic.Roots(c.p, c.k, c.l); len(list) != 0 || f != c.want {
			t.Errorf("Roots(%d, %d, %v): %v, %v, want %v", c.p, c.k, c.l, list, f, c.want)
		}
	}
}

// TestRootsOnlyRead: neither a list nor what lies behind its length is changed, or read, and an answer is new memory.
func TestRootsOnlyRead(t *testing.T) {
	memory := append([]int{-1, 0, 1}, slices.Repeat([]int{top + 1}, 20)...)
	kept := slices.Clone(memory)
	one, _ := padic.Roots(2, 3, memory[:3])
	if !slices.Equal(one, []int{1, 3, 5, 7}) || !slices.Equal(memory, kept) {
		t.Errorf("Roots: %v, and the memory is now %v", one, memory)
	}
	clear(one[:cap(one)])
	if other, _ := padic.Roots(2, 3, memory[:3]); !slices.Equal(other, []int{1, 3, 5, 7}) || !slices.Equal(memory, kept) {
		t.Errorf("Roots: %v after the first answer was changed, and the memory is now %v", other, memory)
	}
}
