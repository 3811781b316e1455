package cert_test

import (
	"math"
	"math/big"
	"math/bits"
	"math/rand/v2"
	"reflect"
	"slices"
	"testing"

	"arithmetica/api"
	"arithmetica/cert"
	"arithmetica/sample"
)

const (
	top      = api.MaxNum
	greatest = 999999999999999989 // the greatest prime up to MaxNum
)

var none = api.Fault{}

func faultOf(code, at int) api.Fault { return api.Fault{Code: code, At: at} }

func large(n int) *big.Int { return big.NewInt(int64(n)) }

// knownPrime asks math/big, which is certain below 2^64.
func knownPrime(n int) bool { return n > 1 && large(n).ProbablyPrime(0) }

func part(n, root int, parts ...api.Cert) api.Cert {
	return api.Cert{N: n, Root: root, Parts: parts}
}

// two, three, .. are new certificates each time, so that a test may change them.
func two() api.Cert   { return part(2, 0) }
func three() api.Cert { return part(3, 2, two()) }
func five() api.Cert  { return part(5, 2, two()) }
func seven() api.Cert { return part(7, 3, two(), three()) }

// flat lists parts, each ahead of its Parts, and no more than one beyond MaxList.
func flat(list []*api.Cert, c *api.Cert) []*api.Cert {
	list = append(list, c)
	for i := range c.Parts {
		if len(list) > api.MaxList {
			break
		}
		list = flat(list, &c.Parts[i])
	}
	return list
}

// wantFault answers what the chapter asks of Check, reckoned with long numbers and from a list of all parts.
func wantFault(c api.Cert) api.Fault {
	for at, p := range flat(nil, &c) {
		if at == api.MaxList {
			return faultOf(api.ErrMany, 0)
		}
		if code := wantCode(*p); code != api.OK {
			return faultOf(code, at)
		}
	}
	return none
}

func wantCode(c api.Cert) int {
	if c.N < 2 || c.N > top {
		return api.ErrRange
	}
	if c.N == 2 {
		if c.Root != 0 || len(c.Parts) > 0 {
			return api.ErrForm
		}
		return api.OK
	}
	if c.Root < 2 || c.Root > c.N-1 || !wantParts(c) {
		return api.ErrForm
	}
	if !leavesOne(c.Root, c.N-1, c.N) {
		return api.ErrFalse
	}
	for _, q := range c.Parts {
		if leavesOne(c.Root, (c.N-1)/q.N, c.N) {
			return api.ErrFalse
		}
	}
	return api.OK
}

func wantParts(c api.Cert) bool {
	left := large(c.N - 1)
	for i, p := range c.Parts {
		if p.N < 2 || i > 0 && p.N <= c.Parts[i-1].N {
			return false
		}
		times := 0
		for new(big.Int).Mod(left, large(p.N)).Sign() == 0 {
			left.Div(left, large(p.N))
			times++
		}
		if times == 0 {
			return false
		}
	}
	return left.Cmp(large(1)) == 0
}

func leavesOne(root, n, m int) bool {
	return new(big.Int).Exp(large(root), large(n), large(m)).Cmp(large(1)) == 0
}

// chosenPrimes are those at the edges, with many parts, with parts deep in one another, and of all lengths.
func chosenPrimes() []int {
	list := []int{2, 3, 5, 7, 17, 257, 65537, 1<<31 - 1, 999983, 1000003, 999999937, 1000000007, 999999999999999877, greatest}
	for _, n := range sample.Spread(300) {
		n = max(n, -n)
		for !knownPrime(n) {
			n++
		}
		list = append(list, min(n, greatest))
	}
	return append(append(list, widePrimes()...), deepPrimes()...)
}

// widePrimes follow on numbers in which there are the first 13 primes.
func widePrimes() []int {
	const product = 304250263527210 // of the primes up to 41
	var list []int
	for times := 1; times <= top/product; times++ {
		if knownPrime(times*product + 1) {
			list = append(list, times*product+1)
		}
	}
	return list[len(list)-20:]
}

// deepPrimes are each in what is ahead of the next one.
func deepPrimes() []int {
	list := []int{2}
	for p := 2; ; {
		next := 2*p + 1
		for next <= top && !knownPrime(next) {
			next += 2 * p
		}
		if next > top {
			return list
		}
		list = append(list, next)
		p = next
	}
}

// checkMade holds Make against P3.2, by Check and by long numbers.
func checkMade(t *testing.T, n int) api.Cert {
	t.Helper()
	c, f := cert.Make(n)
	if f != none || c.N != n {
		t.Fatalf("Make(%d): %v, %v", n, c, f)
	}
	if got := cert.Check(c); got != none {
		t.Fatalf("Make(%d): %v, of which Check says %v", n, c, got)
	}
	if want := wantFault(c); want != none {
		t.Fatalf("Make(%d): %v, which has the fault %v", n, c, want)
	}
	return c
}

// TestMakeOfAllSmallNumbers: P3.2, and that each prime has a certificate.
func TestMakeOfAllSmallNumbers(t *testing.T) {
	for n := -1000; n <= 20000; n++ {
		if knownPrime(n) {
			checkMade(t, n)
		} else {
			checkNoneMade(t, n, faultOf(api.ErrNone, 0))
		}
	}
}

func checkNoneMade(t *testing.T, n int, want api.Fault) {
	t.Helper()
	c, f := cert.Make(n)
	if f != want || c.N != 0 || c.Root != 0 || len(c.Parts) != 0 {
		t.Errorf("Make(%d): %v, %v, want %v alone", n, c, f, want)
	}
}

func TestMakeOfChosenPrimes(t *testing.T) {
	for _, n := range chosenPrimes() {
		c := checkMade(t, n)
		for _, p := range flat(nil, &c) {
			if !knownPrime(p.N) {
				t.Errorf("Make(%d): its part %v", n, *p)
			}
		}
	}
}

// TestMakeIsWideAndDeep: what chosenPrimes says of its primes is so.
func TestMakeIsWideAndDeep(t *testing.T) {
	for _, n := range widePrimes() {
		if c := checkMade(t, n); len(c.Parts) < 13 {
			t.Errorf("Make(%d): only %d Parts", n, len(c.Parts))
		}
	}
	list := deepPrimes()
	if len(list) < 15 {
		t.Fatalf("only %d primes in one another", len(list))
	}
	c := checkMade(t, list[len(list)-1])
	for i := len(list) - 2; i >= 0; i-- {
		at := slices.IndexFunc(c.Parts, func(p api.Cert) bool { return p.N == list[i] })
		if at < 0 {
			t.Fatalf("%d is not in %v", list[i], c)
		}
		c = c.Parts[at]
	}
}

// TestMakeStaysFarBelowMaxList: else Check had to tell ErrMany of what was made.
func TestMakeStaysFarBelowMaxList(t *testing.T) {
	for _, n := range chosenPrimes() {
		c := checkMade(t, n)
		if many := len(flat(nil, &c)); many >= 2*bits.Len64(uint64(n)) {
			t.Errorf("Make(%d): %d parts", n, many)
		}
	}
}

func TestMakeOfTheExamples(t *testing.T) {
	if c := checkMade(t, 2); c.Root != 0 || len(c.Parts) != 0 {
		t.Errorf("Make(2): %v", c)
	}
	if c := checkMade(t, 3); !reflect.DeepEqual(c, three()) {
		t.Errorf("Make(3): %v", c)
	}
	// Of 7 there are the Roots 3 and 5, and which is free.
	if c := checkMade(t, 7); c.Root != 3 && c.Root != 5 || !reflect.DeepEqual(c.Parts, seven().Parts) {
		t.Errorf("Make(7): %v", c)
	}
}

// TestMakeTellsWhatIsNoPrime: numbers that look like primes among them; a prime's opposite is none.
func TestMakeTellsWhatIsNoPrime(t *testing.T) {
	for _, n := range []int{
		-top, -greatest, -7, -3, -2, -1, 0, 1, 4, 9, 561, 1105, 1729, 2047, 3215031751, 341550071728321,
		999999937 * 999999937, 999999929 * 999999937, 999983 * 999983 * 999983, greatest - 1, greatest + 1, greatest + 2, top - 1, top,
	} {
		checkNoneMade(t, n, faultOf(api.ErrNone, 0))
	}
}

func TestMakeTellsWhatIsNoNumber(t *testing.T) {
	for _, n := range sample.Edges() {
		switch {
		case n < -top || n > top:
			checkNoneMade(t, n, faultOf(api.ErrRange, 0))
		case knownPrime(n):
			checkMade(t, n)
		default:
			checkNoneMade(t, n, faultOf(api.ErrNone, 0))
		}
	}
}

// TestMadePartsShareNoMemory: neither within one answer nor with another one, behind their length too.
func TestMadePartsShareNoMemory(t *testing.T) {
	taken := map[*api.Cert]bool{}
	for _, n := range []int{2, 3, 7, 43, 1000003, 43, greatest, greatest} {
		c := checkMade(t, n)
		for _, p := range flat(nil, &c) {
			all := p.Parts[:cap(p.Parts)]
			for i := range all {
				if taken[&all[i]] {
					t.Fatalf("Make(%d): %v shares its Parts", n, *p)
				}
				taken[&all[i]] = true
			}
		}
	}
}

// checkFault holds Check against a fault that was reckoned by hand, and that against wantFault.
func checkFault(t *testing.T, name string, c api.Cert, want api.Fault) {
	t.Helper()
	if also := wantFault(c); also != want {
		t.Errorf("%s: the test wants %v and %v", name, want, also)
	}
	if got := cert.Check(c); got != want {
		t.Errorf("%s: %v, want %v", name, got, want)
	}
}

// TestCheckTellsWhichNIsOutOfRange: ahead of all else that is wrong with the part.
func TestCheckTellsWhichNIsOutOfRange(t *testing.T) {
	for _, n := range []int{math.MinInt, -top - 1, -top, -7, -2, -1, 0, 1, top + 1, top + 9, math.MaxInt} {
		for _, c := range []api.Cert{part(n, 0), part(n, 3, two(), three()), part(n, n-1, part(n, 0)), part(n, 2, part(0, 0))} {
			checkFault(t, "N out of range", c, faultOf(api.ErrRange, 0))
		}
	}
	checkFault(t, "MaxNum is in range", part(top, 0), faultOf(api.ErrForm, 0))
	checkFault(t, "nothing", api.Cert{}, faultOf(api.ErrRange, 0))
}

func TestCheckOfTwo(t *testing.T) {
	checkFault(t, "2", two(), none)
	checkFault(t, "2 with an empty list", api.Cert{N: 2, Parts: []api.Cert{}}, none)
	for _, root := range []int{math.MinInt, -1, 1, 2, 3, math.MaxInt} {
		checkFault(t, "2 with a Root", part(2, root), faultOf(api.ErrForm, 0))
		checkFault(t, "3, whose 2 has a Root", part(3, 2, part(2, root)), faultOf(api.ErrForm, 1))
	}
	for _, p := range []api.Cert{{}, part(1, 0), two(), three()} {
		checkFault(t, "2 with Parts", part(2, 0, p), faultOf(api.ErrForm, 0))
		checkFault(t, "3, whose 2 has Parts", part(3, 2, part(2, 0, p)), faultOf(api.ErrForm, 1))
	}
}

// TestCheckOfEachRoot: of a prime and its true Parts, Check says nothing just of those Roots that need all N - 1 steps back to 1.
func TestCheckOfEachRoot(t *testing.T) {
	for n := 3; n <= 200; n++ {
		if !knownPrime(n) {
			continue
		}
		c := checkMade(t, n)
		for root := -2; root <= n+2; root++ {
			want := none
			if root < 2 || root >= n {
				want = faultOf(api.ErrForm, 0)
			} else if stepsToOne(root, n) != n-1 {
				want = faultOf(api.ErrFalse, 0)
			}
			c.Root = root
			checkFault(t, "a Root", c, want)
		}
	}
}

// stepsToOne answers how often root is multiplied until 1 is left, left by n, or 0 if that is never so.
func stepsToOne(root, n int) int {
	left := root
	for steps := 1; steps < n; steps++ {
		if left == 1 {
			return steps
		}
		left = left * root % n
	}
	return 0
}

func TestCheckOfChosenRoots(t *testing.T) {
	for root, want := range map[int]api.Fault{
		math.MinInt: faultOf(api.ErrForm, 0), -greatest: faultOf(api.ErrForm, 0), -1: faultOf(api.ErrForm, 0), 0: faultOf(api.ErrForm, 0), 1: faultOf(api.ErrForm, 0),
		greatest - 1: faultOf(api.ErrFalse, 0), greatest: faultOf(api.ErrForm, 0), greatest + 1: faultOf(api.ErrForm, 0), math.MaxInt: faultOf(api.ErrForm, 0),
	} {
		c := checkMade(t, greatest)
		c.Root = root
		checkFault(t, "the greatest prime", c, want)
	}
}

// TestCheckOfChosenParts: P3.1's ErrForm, and what is looked at behind it.
func TestCheckOfChosenParts(t *testing.T) {
	form := faultOf(api.ErrForm, 0)
	for _, c := range []struct {
		name string
		cert api.Cert
		want api.Fault
	}{
		{"seven", seven(), none},
		{"no Parts", part(7, 3), form},
		{"an empty list", api.Cert{N: 3, Root: 2, Parts: []api.Cert{}}, form},
		{"2 lacks", part(7, 3, three()), form},
		{"3 lacks", part(7, 3, two()), form},
		{"they fall", part(7, 3, three(), two()), form},
		{"2 twice", part(7, 3, two(), two(), three()), form},
		{"2 twice, as 2 divides 4", part(5, 2, two(), two()), form},
		{"3 twice", part(7, 3, two(), three(), three()), form},
		{"one that does not divide", part(7, 3, two(), three(), five()), form},
		{"one that does not divide, between", part(31, 3, two(), three(), part(4, 3, three()), five()), form},
		{"1", part(7, 3, part(1, 0), two(), three()), form},
		{"1 alone", part(3, 2, part(1, 0)), form},
		{"nought", part(7, 3, part(0, 0), two(), three()), form},
		{"nought alone", part(3, 2, part(0, 0)), form},
		{"-1", part(7, 3, part(-1, 0), two(), three()), form},
		{"below nought", part(7, 3, part(-2, 0), part(-3, 0)), form},
		{"the least", part(7, 3, part(math.MinInt, 0), two(), three()), form},
		{"the greatest", part(7, 3, two(), three(), part(math.MaxInt, 0)), form},
		{"2 divides 4 and 256 more than once", part(257, 3, two()), none},
		{"2 and 3 divide 36 twice", part(37, 2, two(), three()), none},
		{"7 divides more than is left", part(29, 2, two(), seven()), none},
		{"4 leaves what 2 is asked for", part(13, 2, two(), part(4, 3, three())), form},
		{"6 leaves nothing to 2 and 3", part(7, 3, two(), three(), part(6, 5, five())), form},
		{"4 divides 4, but is no prime", part(5, 2, part(4, 3, three())), faultOf(api.ErrFalse, 1)},
		{"4 divides 8 once and leaves 2", part(73, 5, part(4, 3, three()), part(9, 8, two())), form},
		{"9 is no prime", part(19, 2, two(), part(9, 8, two())), faultOf(api.ErrFalse, 2)},
		{"6 is no prime", part(7, 3, part(6, 5, five())), faultOf(api.ErrFalse, 1)},
		{"nine", part(9, 8, two()), faultOf(api.ErrFalse, 0)},
		{"MaxNum", part(top, 7, part(top-1, 2)), faultOf(api.ErrFalse, 0)},
	} {
		checkFault(t, c.name, c.cert, c.want)
	}
}

// TestCheckTellsTheFirstFault: each part's ahead of those in it, these in order, and of one part ErrRange, ErrForm, ErrFalse.
func TestCheckTellsTheFirstFault(t *testing.T) {
	badThree := part(3, 1, two())
	badTwo := part(2, 1)
	// The parts of 43 are 43, 2, 3, 2, 7, 2, 3, 2, from 0 to 7.
	for _, c := range []struct {
		name string
		cert api.Cert
		want api.Fault
	}{
		{"43", part(43, 3, two(), three(), seven()), none},
		{"a Root that is no power, and all Parts wrong", part(43, 2, badTwo, badThree, part(7, 0)), faultOf(api.ErrFalse, 0)},
		{"a Root out of range, and all Parts wrong", part(43, 43, badTwo, badThree, part(7, 0)), faultOf(api.ErrForm, 0)},
		{"Parts that lack, and a Root that is no power", part(43, 2, two(), three()), faultOf(api.ErrForm, 0)},
		{"N out of range, and all else", part(1, 1, badTwo, badThree), faultOf(api.ErrRange, 0)},
		{"the first Part", part(43, 3, badTwo, badThree, part(7, 0)), faultOf(api.ErrForm, 1)},
		{"the second Part", part(43, 3, two(), badThree, part(7, 0)), faultOf(api.ErrForm, 2)},
		{"what is in the second, ahead of the third", part(43, 3, two(), part(3, 2, badTwo), part(7, 0)), faultOf(api.ErrForm, 3)},
		{"the third Part", part(43, 3, two(), three(), part(7, 2, badTwo, badThree)), faultOf(api.ErrFalse, 4)},
		{"the first in the third", part(43, 3, two(), three(), part(7, 3, badTwo, badThree)), faultOf(api.ErrForm, 5)},
		{"the second in the third", part(43, 3, two(), three(), part(7, 3, two(), badThree)), faultOf(api.ErrForm, 6)},
		{"the last of all", part(43, 3, two(), three(), part(7, 3, two(), part(3, 2, badTwo))), faultOf(api.ErrForm, 7)},
	} {
		checkFault(t, c.name, c.cert, c.want)
	}
}

// TestCheckNeverTakesANumberThatIsNoPrime: P3's 'What follows', of each Root and the true primes in N - 1.
func TestCheckNeverTakesANumberThatIsNoPrime(t *testing.T) {
	list := []int{561, 1105, 1729, 2047}
	for n := 4; n <= 300; n++ {
		list = append(list, n)
	}
	for _, n := range list {
		if knownPrime(n) {
			continue
		}
		c := api.Cert{N: n}
		for q := 2; q < n; q++ {
			if (n-1)%q == 0 && knownPrime(q) {
				c.Parts = append(c.Parts, checkMade(t, q))
			}
		}
		for c.Root = 2; c.Root < n; c.Root++ {
			if got := cert.Check(c); got != faultOf(api.ErrFalse, 0) {
				t.Errorf("Check(%v): %v", c, got)
			}
		}
	}
}

// TestCheckGoesDown: the one Part of each part is N - 1. Hardly any of them is a prime, but each has a Root that goes with its Part, down to 847340, of which there is none.
func TestCheckGoesDown(t *testing.T) {
	evenRoots := []int{4259, 9025, 88471, 293625, 9451, 50865, 10727, 14065, 157649, 711681} // of 847342, 847344 and so on
	c := part(847340, 2, part(847339, 0))
	checkFault(t, "down by 0", c, faultOf(api.ErrFalse, 0))
	for i, evenRoot := range evenRoots {
		odd := c.N + 1
		c = part(odd, odd-1, c)
		checkFault(t, "down to an even one", c, faultOf(api.ErrFalse, 2*i+1))
		c = part(odd+1, evenRoot, c)
		checkFault(t, "down to an odd one", c, faultOf(api.ErrFalse, 2*i+2))
	}
}

// TestCheckOfGreatLists: what is wrong with a part is told, however much lies behind it.
func TestCheckOfGreatLists(t *testing.T) {
	for _, many := range []int{api.MaxList - 1, api.MaxList, api.MaxList + 1, 1 << 16} {
		wide := part(7, 3, slices.Repeat([]api.Cert{two()}, many)...)
		checkFault(t, "wide", wide, faultOf(api.ErrForm, 0))
		checkFault(t, "wide, within", part(43, 3, two(), three(), wide), faultOf(api.ErrForm, 4))
		wide.N = 0
		checkFault(t, "wide, of nought", wide, faultOf(api.ErrRange, 0))
		deep := two()
		for range many {
			deep = part(3, 2, deep)
		}
		checkFault(t, "deep", deep, faultOf(api.ErrForm, 0))
		checkFault(t, "deep, within", part(7, 3, two(), deep), faultOf(api.ErrForm, 2))
	}
}

// TestCheckEndsWhereAPartLiesInItself: P1.
func TestCheckEndsWhereAPartLiesInItself(t *testing.T) {
	parts := []api.Cert{two()}
	parts[0].Parts = parts
	checkFault(t, "2 in itself", part(3, 2, parts...), faultOf(api.ErrForm, 1))
	parts = []api.Cert{two(), three()}
	parts[1].Parts = parts
	checkFault(t, "3 in itself", part(7, 3, parts...), faultOf(api.ErrForm, 2))
}

// TestCheckOnlyReads: neither the certificate nor what lies behind a list's length is written, and that is not read.
func TestCheckOnlyReads(t *testing.T) {
	build := func() api.Cert {
		c := part(43, 3, two(), three(), seven(), part(-1, 5, part(4, 4)))
		c.Parts = c.Parts[:3]
		c.Parts[2].Parts = append(c.Parts[2].Parts, five())[:2]
		return c
	}
	c := build()
	checkFault(t, "43", c, none)
	for name, lists := range map[string][2][]api.Cert{
		"Parts":          {c.Parts[:4], build().Parts[:4]},
		"Parts of the 7": {c.Parts[2].Parts[:3], build().Parts[2].Parts[:3]},
	} {
		if !reflect.DeepEqual(lists[0], lists[1]) {
			t.Errorf("%s were changed: %v", name, lists[0])
		}
	}
}

// spoil changes one part of a certificate.
func spoil(draw *rand.Rand, c *api.Cert) {
	list := flat(nil, c)
	p := list[draw.IntN(len(list))]
	other := *list[draw.IntN(len(list))]
	edges := sample.Edges()
	i, j := draw.IntN(len(p.Parts)+1), draw.IntN(len(p.Parts)+1)
	switch draw.IntN(10) {
	case 0:
		p.N = edges[draw.IntN(len(edges))]
	case 1:
		p.N += draw.IntN(5) - 2
	case 2:
		p.Root = edges[draw.IntN(len(edges))]
	case 3:
		p.Root = draw.IntN(max(p.N, 1)) + 1
	case 4:
		p.Root = max(p.N, math.MinInt+2) + draw.IntN(3) - 2
	case 5:
		p.Parts = slices.Delete(p.Parts, min(i, j), max(i, j))
	case 6:
		p.Parts = slices.Insert(p.Parts, i, part(other.N, other.Root))
	case 7:
		if i < len(p.Parts) && j < len(p.Parts) {
			p.Parts[i], p.Parts[j] = p.Parts[j], p.Parts[i]
		}
	case 8:
		p.Parts = []api.Cert{part(max(p.N, 1)-1, 2)}
		p.Root = max(p.N, 1) - 1
	case 9:
		p.Root = draw.IntN(20)
	}
}

// TestCheckOfSpoiltCertificates: right certificates with one fault or some, against long numbers. What Check says nothing of is of a prime.
func TestCheckOfSpoiltCertificates(t *testing.T) {
	draw := rand.New(rand.NewPCG(20261116, 3))
	primes := chosenPrimes()
	type kind struct {
		code  int
		first bool
	}
	told := map[kind]int{}
	for i := range 20000 {
		c := checkMade(t, primes[i%len(primes)])
		for range 1 + i%3 {
			spoil(draw, &c)
		}
		got := cert.Check(c)
		if want := wantFault(c); got != want {
			t.Fatalf("Check(%v): %v, want %v", c, got, want)
		}
		if got == none && !knownPrime(c.N) {
			t.Fatalf("Check(%v) says nothing, and %d is no prime", c, c.N)
		}
		told[kind{got.Code, got.At == 0}]++
	}
	// ErrRange is of the first part alone: an N out of range divides nothing that it could be a Part of.
	for _, k := range []kind{{api.OK, true}, {api.ErrRange, true}, {api.ErrForm, true}, {api.ErrForm, false}, {api.ErrFalse, true}, {api.ErrFalse, false}} {
		if told[k] < 50 {
			t.Errorf("%v came only %d times", k, told[k])
		}
	}
}
