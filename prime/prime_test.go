package prime_test

import (
	"math"
	"math/big"
	"runtime"
	"slices"
	"sync"
	"testing"
	"time"

	"arithmetica/api"
	"arithmetica/prime"
	"arithmetica/sample"
)

const (
	top      = api.MaxNum
	greatest = 999999999999999989 // the greatest prime up to MaxNum
)

var none = api.Fault{}

func faultOf(code, at int) api.Fault { return api.Fault{Code: code, At: at} }

func isNumber(n int) bool { return -top <= n && n <= top }

// leastDivisors answers the least divisor above 1 of each number up to limit, found by division alone (0 of 0 and 1).
func leastDivisors(limit int) []int {
	least := make([]int, limit+1)
	for n := 2; n <= limit; n++ {
		for multiple := n; multiple <= limit; multiple += n {
			if least[multiple] == 0 {
				least[multiple] = n
			}
		}
	}
	return least
}

// knownPrime asks math/big, which is certain below 2^64.
func knownPrime(n int) bool { return n > 1 && big.NewInt(int64(n)).ProbablyPrime(0) }

// TestIsOfAllSmallNumbers: Is of the face.
func TestIsOfAllSmallNumbers(t *testing.T) {
	const limit = 100000
	least := leastDivisors(limit)
	for n := -limit; n <= limit; n++ {
		want := n > 1 && least[n] == n
		if got, f := prime.Is(n); got != want || f != none {
			t.Fatalf("Is(%d): %v, %v, want %v", n, got, f, want)
		}
	}
}

func TestIsOfChosenNumbers(t *testing.T) {
	for n, want := range map[int]bool{
		-top: false, -greatest: false, -7: false, -2: false, -1: false, 0: false, 1: false, 2: true, 3: true, 4: false, 23: true, 25: false, 29: true, 529: false, 841: false,
		561: false, 1105: false, 1729: false, 41041: false, 825265: false, 321197185: false, // Carmichael's
		2047: false, 1373653: false, 25326001: false, 3215031751: false, 2152302898747: false, 3474749660383: false, 341550071728321: false, // against which 2, 3, .. up to 19 are no witnesses
		1<<31 - 1: true, 1<<32 + 1: false, 1<<59 - 1: false, 999999937: true, 1000000007: true,
		999999937 * 999999937: false, 999999929 * 999999937: false, 999983 * 999983 * 999983: false, 997 * 997 * 997 * 997 * 997 * 997: false,
		greatest - 1: false, greatest: true, greatest + 1: false, greatest + 2: false, top - 1: false, top: false,
	} {
		if got, f := prime.Is(n); got != want || f != none {
			t.Errorf("Is(%d): %v, %v, want %v", n, got, f, want)
		}
	}
}

func TestIsOfManyNumbers(t *testing.T) {
	for _, n := range sample.Numbers(2000) {
		for _, near := range []int{n, max(n-1, -top) | 1, min(n, top-2) + 2} {
			if got, f := prime.Is(near); got != knownPrime(near) || f != none {
				t.Fatalf("Is(%d): %v, %v, want %v", near, got, f, knownPrime(near))
			}
		}
	}
}

// TestIsAndNextTellWhatIsNoNumber: ErrRange at 0 of both, and nothing beside a fault.
func TestIsAndNextTellWhatIsNoNumber(t *testing.T) {
	for _, n := range sample.Edges() {
		want := none
		if !isNumber(n) {
			want = faultOf(api.ErrRange, 0)
		}
		is, f := prime.Is(n)
		if f != want || want != none && is {
			t.Errorf("Is(%d): %v, %v, want %v", n, is, f, want)
		}
		if want == none && n >= greatest {
			want = faultOf(api.ErrMuch, 0)
		}
		next, f := prime.Next(n)
		if f != want || want != none && next != 0 {
			t.Errorf("Next(%d): %d, %v, want %v", n, next, f, want)
		}
	}
}

// TestNextOfChosenNumbers: P2.1.
func TestNextOfChosenNumbers(t *testing.T) {
	for n, want := range map[int]int{
		-top: 2, -greatest: 2, -5: 2, -1: 2, 0: 2, 1: 2, 2: 3, 3: 5, 4: 5, 5: 7, 7: 11, 13: 17, 14: 17, 7918: 7919, 7919: 7927,
		api.MaxSmall: 1000003, 999999929: 999999937, 999999937: 1000000007, 1<<31 - 2: 1<<31 - 1,
		804212830686677669: 804212830686679111, // the longest gap of all
		greatest - 2:       greatest, greatest - 1: greatest,
	} {
		if got, f := prime.Next(n); got != want || f != none {
			t.Errorf("Next(%d): %d, %v, want %d", n, got, f, want)
		}
	}
}

func TestNextAboveTheGreatestPrime(t *testing.T) {
	for n := greatest; n <= top; n++ {
		if got, f := prime.Next(n); got != 0 || f != faultOf(api.ErrMuch, 0) {
			t.Errorf("Next(%d): %d, %v, want ErrMuch at 0", n, got, f)
		}
	}
}

func TestNextLeavesOutNoPrime(t *testing.T) {
	const limit = 20000
	want := 2
	least := leastDivisors(2 * limit)
	for n := -3; n <= limit; n++ {
		for want <= n || least[want] != want {
			want++
		}
		if got, f := prime.Next(n); got != want || f != none {
			t.Fatalf("Next(%d): %d, %v, want %d", n, got, f, want)
		}
	}
	for _, n := range sample.Spread(200) {
		got, f := prime.Next(n)
		if f != none || got <= n || !knownPrime(got) {
			t.Fatalf("Next(%d): %d, %v", n, got, f)
		}
		for between := max(n+1, 2); between < got; between++ {
			if knownPrime(between) {
				t.Fatalf("Next(%d): %d, but %d is a prime, too", n, got, between)
			}
		}
	}
}

// TestFirstOfEachLength: First of the face; 0 and MaxList are allowed.
func TestFirstOfEachLength(t *testing.T) {
	var want []int
	least := leastDivisors(8000)
	for n := 2; len(want) < api.MaxList; n++ {
		if least[n] == n {
			want = append(want, n)
		}
	}
	for many := range api.MaxList + 1 {
		if got, f := prime.First(many); !slices.Equal(got, want[:many]) || f != none {
			t.Fatalf("First(%d): %v, %v, want %v", many, got, f, want[:many])
		}
	}
}

func TestFirstTellsWhatIsTooMany(t *testing.T) {
	for _, many := range append(sample.Edges(), -1, api.MaxList+1, api.MaxSmall) {
		if 0 <= many && many <= api.MaxList {
			continue
		}
		if got, f := prime.First(many); len(got) != 0 || f != faultOf(api.ErrMany, 0) {
			t.Errorf("First(%d): %d primes, %v, want ErrMany at 0", many, len(got), f)
		}
	}
}

// TestAnswersAreNewMemory: a list that was answered may be written over, behind its length too.
func TestAnswersAreNewMemory(t *testing.T) {
	for range 2 {
		list, _ := prime.First(5)
		if !slices.Equal(list, []int{2, 3, 5, 7, 11}) {
			t.Fatalf("First(5): %v", list)
		}
		list = list[:cap(list)]
		for i := range list {
			list[i] = -1
		}
		powers, _ := prime.Factor(60)
		if !slices.Equal(powers, []api.Power{{Prime: 2, Times: 2}, {Prime: 3, Times: 1}, {Prime: 5, Times: 1}}) {
			t.Fatalf("Factor(60): %v", powers)
		}
		clear(powers[:cap(powers)])
	}
}

// TestCountOfManyNumbers: P2.2, by each number of workers.
func TestCountOfManyNumbers(t *testing.T) {
	least := leastDivisors(api.MaxSmall)
	want := 0
	for n := range api.MaxSmall + 1 {
		if n > 1 && least[n] == n {
			want++
		}
		nearPart := n%(1<<14) <= 1 || n%(1<<14) == 1<<14-1
		if n > 400 && n < api.MaxSmall-2 && !nearPart {
			continue
		}
		for workers := 1; workers <= 16; workers += 1 + n%5 {
			if got, f := prime.Count(n, workers); got != want || f != none {
				t.Fatalf("Count(%d, %d): %d, %v, want %d", n, workers, got, f, want)
			}
		}
	}
}

func TestCountOfChosenNumbers(t *testing.T) {
	for n, want := range map[int]int{0: 0, 1: 0, 2: 1, 3: 2, 4: 2, 10: 4, 100: 25, 1000: 168, 10000: 1229, 100000: 9592, 999982: 78497, 999983: 78498, api.MaxSmall: 78498} {
		for workers := 1; workers <= 16; workers++ {
			if got, f := prime.Count(n, workers); got != want || f != none {
				t.Errorf("Count(%d, %d): %d, %v, want %d", n, workers, got, f, want)
			}
		}
	}
}

// TestCountTellsItsFaultsInOrder: that of n ahead of that of workers.
func TestCountTellsItsFaultsInOrder(t *testing.T) {
	numbers := append(sample.Edges(), api.MaxSmall, api.MaxSmall+1)
	for _, n := range numbers {
		for _, workers := range append(sample.Edges(), 16, 17) {
			want := none
			if n < 0 || n > api.MaxSmall {
				want = faultOf(api.ErrRange, 0)
			} else if workers < 1 || workers > 16 {
				want = faultOf(api.ErrRange, 1)
			}
			if got, f := prime.Count(n, workers); f != want || want != none && got != 0 {
				t.Errorf("Count(%d, %d): %d, %v, want %v", n, workers, got, f, want)
			}
		}
	}
}

// TestCountLeavesNoWorkerBehind: an ended goroutine may need a moment to leave the list, one that goes on counting never does.
func TestCountLeavesNoWorkerBehind(t *testing.T) {
	before := runtime.NumGoroutine()
	for workers := 1; workers <= 16; workers++ {
		prime.Count(100, workers)
	}
	for range 1000 {
		if runtime.NumGoroutine() <= before {
			return
		}
		time.Sleep(time.Millisecond)
	}
	t.Errorf("%d goroutines, and %d before", runtime.NumGoroutine(), before)
}

// TestCallsSideBySide: what is found once is the same for all who ask at the same time.
func TestCallsSideBySide(t *testing.T) {
	var asking sync.WaitGroup
	for i := range 32 {
		asking.Go(func() {
			list, _ := prime.First(api.MaxList)
			many, _ := prime.Count(100000, 1+i%16)
			powers, _ := prime.Factor(7919 * 7919)
			if list[api.MaxList-1] != 7919 || many != 9592 || !slices.Equal(powers, []api.Power{{Prime: 7919, Times: 2}}) {
				t.Errorf("caller %d: %d, %d, %v", i, list[api.MaxList-1], many, powers)
			}
		})
	}
	asking.Wait()
}

// TestFactorOfAllSmallNumbers: P2.3.
func TestFactorOfAllSmallNumbers(t *testing.T) {
	const limit = 100000
	least := leastDivisors(limit)
	for n := 1; n <= limit; n++ {
		var want []api.Power
		for left := n; left > 1; left /= least[left] {
			if last := len(want) - 1; last >= 0 && want[last].Prime == least[left] {
				want[last].Times++
			} else {
				want = append(want, api.Power{Prime: least[left], Times: 1})
			}
		}
		if got, f := prime.Factor(n); !slices.Equal(got, want) || f != none {
			t.Fatalf("Factor(%d): %v, %v, want %v", n, got, f, want)
		}
	}
}

// product answers what a list stands for, or 0 beyond MaxNum.
func product(list []api.Power) int {
	n := 1
	for _, power := range list {
		for range power.Times {
			if n > top/power.Prime {
				return 0
			}
			n *= power.Prime
		}
	}
	return n
}

func powers(pairs [][2]int) []api.Power {
	var list []api.Power
	for _, pair := range pairs {
		list = append(list, api.Power{Prime: pair[0], Times: pair[1]})
	}
	return list
}

func TestFactorOfChosenNumbers(t *testing.T) {
	for _, pairs := range [][][2]int{
		{},
		{{3, 1}, {11, 1}, {17, 1}},
		{{2, 59}}, {{3, 37}}, {{2, 18}, {5, 18}}, {{greatest, 1}}, {{2, 1}, {499999999999999931, 1}},
		{{2, 1}, {3, 1}, {5, 1}, {7, 1}, {11, 1}, {13, 1}, {17, 1}, {19, 1}, {23, 1}, {29, 1}, {31, 1}, {37, 1}, {41, 1}, {43, 1}, {47, 1}},
		{{999999929, 1}, {999999937, 1}}, {{999999937, 2}}, {{2, 1}, {499999993, 2}}, {{999983, 3}}, {{31607, 4}}, {{31601, 2}, {31607, 2}},
		{{997, 1}}, {{1009, 1}}, {{997, 2}}, {{997, 1}, {1009, 1}}, {{1009, 2}}, {{1009, 1}, {1013, 1}}, {{997, 6}}, {{1009, 5}}, {{1009, 4}, {1013, 1}}, {{2, 1}, {997, 2}, {1009, 2}, {1013, 1}},
		{{7919, 1}}, {{7927, 1}}, {{7919, 2}}, {{7919, 1}, {7927, 1}}, {{7927, 2}}, {{7919, 4}}, {{7927, 3}}, {{7927, 4}}, {{7907, 1}, {7919, 2}, {7927, 1}},
		{{7927, 1}, {8219, 1}}, {{8089, 1}, {8221, 1}}, {{8563, 1}, {8923, 1}}, {{8839, 1}, {11083, 1}}, {{1031, 1}, {2389, 1}}, {{4943, 1}, {5413, 1}}, {{5449, 2}}, // whose divisors the first walks do not find
		{{7933, 1}, {7937, 1}}, {{10000141, 1}, {99999989, 1}}, {{10007, 1}, {99999999977, 1}}, {{10670053, 1}, {32010157, 1}},
	} {
		want := powers(pairs)
		n := product(want)
		if got, f := prime.Factor(n); !slices.Equal(got, want) || f != none {
			t.Errorf("Factor(%d): %v, %v, want %v", n, got, f, want)
		}
	}
}

// checkFactor holds Factor against what P2.3 says of its list; there is only one such list.
func checkFactor(t *testing.T, n int) []api.Power {
	t.Helper()
	list, f := prime.Factor(n)
	if f != none || product(list) != n {
		t.Fatalf("Factor(%d): %v, %v", n, list, f)
	}
	for i, power := range list {
		if !knownPrime(power.Prime) || power.Times < 1 || i > 0 && list[i-1].Prime >= power.Prime {
			t.Fatalf("Factor(%d): %v", n, list)
		}
	}
	return list
}

func TestFactorOfManyNumbers(t *testing.T) {
	for _, n := range sample.Numbers(1500) {
		if n != 0 {
			checkFactor(t, max(n, -n))
		}
	}
}

func TestFactorOfProductsOfGreatPrimes(t *testing.T) {
	for _, start := range []int{900, 8000, 31000, 900000, 30000000, 999000000} {
		p := start
		for range 20 {
			p, _ = prime.Next(p)
			q, _ := prime.Next(p)
			checkFactor(t, p*p)
			checkFactor(t, p*q)
			if p < 1000000 {
				checkFactor(t, p*p*p)
				checkFactor(t, p*p*q)
			}
		}
	}
}

// TestThereIsOnlyOneList: however a product is put together, it falls into the same primes.
func TestThereIsOnlyOneList(t *testing.T) {
	list := sample.Spread(3000)
	for i := 1; i < len(list); i++ {
		a, b := max(list[i-1], -list[i-1]), max(list[i], -list[i])
		if a == 0 || b == 0 || a > top/b {
			continue
		}
		times := map[int]int{}
		for _, power := range append(checkFactor(t, a), checkFactor(t, b)...) {
			times[power.Prime] += power.Times
		}
		got := checkFactor(t, a*b)
		for _, power := range got {
			if times[power.Prime] != power.Times {
				t.Fatalf("Factor(%d * %d): %v, want %v", a, b, got, times)
			}
		}
		if len(got) != len(times) {
			t.Fatalf("Factor(%d * %d): %v, want %v", a, b, got, times)
		}
	}
}

func TestFactorTellsWhatIsOutOfRange(t *testing.T) {
	for _, n := range []int{math.MinInt, -top - 1, -top, -561, -1, 0, top + 1, math.MaxInt} {
		if got, f := prime.Factor(n); len(got) != 0 || f != faultOf(api.ErrRange, 0) {
			t.Errorf("Factor(%d): %v, %v, want ErrRange at 0", n, got, f)
		}
	}
}
