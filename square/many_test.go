package square_test

import (
	"math"
	"math/big"
	"strconv"
	"testing"

	"arithmetica/api"
	"arithmetica/sample"
	"arithmetica/square"
)

const most = 1000000000 // the greatest n that Many takes

func checkMany(t *testing.T, n, k int, want string) {
	t.Helper()
	if text, f := square.Many(n, k); text != want || f != none {
		t.Fatalf("Many(%d, %d): %q, %v, want %q", n, k, text, f, want)
	}
}

// rows goes through all rows of k whole numbers whose squares are n in sum, and answers how many there are.
func rows(n, k int) int {
	if k == 0 {
		if n == 0 {
			return 1
		}
		return 0
	}
	many := 0
	for x := -squareRoot(n); x*x <= n; x++ {
		many += rows(n-x*x, k-1)
	}
	return many
}

// TestManyByGoingThroughAllRows: P11.4 with small n.
func TestManyByGoingThroughAllRows(t *testing.T) {
	for k, most := range map[int]int{2: 500, 4: 60, 8: 10} {
		for n := range most + 1 {
			checkMany(t, n, k, strconv.Itoa(rows(n, k)))
		}
	}
}

// longer answers how many rows of one number more there are of each sum, where shorter has those of the rows without it: each row is gone through by its last number and what is left of the sum.
func longer(shorter []int) []int {
	answer := make([]int, len(shorter))
	for n := range shorter {
		for x := 0; x*x <= n; x++ {
			many := shorter[n-x*x]
			if x > 0 {
				many *= 2
			}
			answer[n] += many
		}
	}
	return answer
}

// TestManyByLongerAndLongerRows: P11.4 with all n up to some greater ones.
func TestManyByLongerAndLongerRows(t *testing.T) {
	counts := make([]int, 20001)
	counts[0] = 1
	for k := 1; k <= 8; k++ {
		counts = longer(counts)
		if k != 2 && k != 4 && k != 8 {
			continue
		}
		for n, many := range counts {
			checkMany(t, n, k, strconv.Itoa(many))
		}
	}
}

// byDivisors answers what Many must be for n above 0, divisor by divisor, as the document tells it of 2 and 4 (Jacobi); of 8 it is 16 times the sum of the divisors' cubes, each taken away if only one of n and it is odd.
func byDivisors(n, k int) string {
	sum := new(big.Int)
	add := func(d int) {
		cube := new(big.Int).Exp(large(d), large(3), nil)
		switch {
		case k == 2 && d%4 == 1:
			sum.Add(sum, large(4))
		case k == 2 && d%4 == 3:
			sum.Sub(sum, large(4))
		case k == 4 && d%4 != 0:
			sum.Add(sum, large(8*d))
		case k == 8 && (n+d)%2 == 0:
			sum.Add(sum, cube.Mul(cube, large(16)))
		case k == 8:
			sum.Sub(sum, cube.Mul(cube, large(16)))
		}
	}
	for d := 1; d*d <= n; d++ {
		if n%d == 0 {
			add(d)
			if d*d < n {
				add(n / d)
			}
		}
	}
	return sum.String()
}

// greatOnes are numbers up to 1000000000: those at that bound, powers, primes, squares, numbers with most divisors, and those of all lengths.
func greatOnes() []int {
	list := []int{
		735134400, 821620800, 931170240, 994593600, 698377680, 551350800, 367567200, 73513440, // with more than MaxList divisors, or nearly so many
		999999937, 999999929, 999999893, 31607 * 31607, 31601 * 31607, 2 * 499999993, 4 * 249999991, 29641625, 801125 * 1105, 1185665 * 841, 1<<29 - 3, 536870909, 3 * 333333313,
	}
	for base := 2; base <= 31; base++ {
		for power := 1; power <= most/base; power *= base {
			list = append(list, power*base)
		}
	}
	for less := range 200 {
		list = append(list, most-less)
	}
	for _, n := range sample.Spread(4000) {
		if 0 < n && n <= most {
			list = append(list, n)
		}
	}
	return list
}

// TestManyByDivisors: P11.4 with great n, and what Jacobi tells of 2 and 4.
func TestManyByDivisors(t *testing.T) {
	for n := 1; n <= 3000; n++ {
		for _, k := range []int{2, 4, 8} {
			checkMany(t, n, k, byDivisors(n, k))
		}
	}
	for _, n := range greatOnes() {
		for _, k := range []int{2, 4, 8} {
			checkMany(t, n, k, byDivisors(n, k))
		}
	}
}

// TestManyOfTwoByGoingThroughAllRows: P11.4 of great n and 2, of which all rows can be gone through.
func TestManyOfTwoByGoingThroughAllRows(t *testing.T) {
	for _, n := range append(greatOnes()[:60], 999999999, most, 801125*1105, 5*13*17*29*37*41) {
		many := 0
		for x := 0; x*x <= n; x++ {
			y := int(math.Sqrt(float64(n - x*x))) // which is exact up to 2^52
			if y*y != n-x*x {
				continue
			}
			signs := 1
			for _, part := range []int{x, y} {
				if part > 0 {
					signs *= 2
				}
			}
			many += signs
		}
		checkMany(t, n, 2, strconv.Itoa(many))
	}
}

// TestManyOfTwoIsWhatTwoFinds: each pair stands for eight rows, or for four, or, of 0, for one.
func TestManyOfTwoIsWhatTwoFinds(t *testing.T) {
	for _, n := range append(greatOnes(), 0, 1, 2, 25, 50, 1105) {
		list, _ := square.Two(n)
		many := 0
		for _, pair := range list {
			switch a, b := pair[0], pair[1]; {
			case a == 0:
				many++
			case b == 0 || a == b:
				many += 4
			default:
				many += 8
			}
		}
		checkMany(t, n, 2, strconv.Itoa(many))
	}
}

func TestManyOfChosenNumbers(t *testing.T) {
	for _, c := range []struct {
		n                      int
		ofTwo, ofFour, ofEight string
	}{
		{0, "1", "1", "1"},
		{1, "4", "8", "16"},
		{2, "4", "24", "112"},
		{3, "0", "32", "448"},
		{4, "4", "24", "1136"},
		{5, "8", "48", "2016"},
		{12, "0", "96", "31808"},
		{1 << 29, "4", "24", "2829577232652297771197998192"},
		{raised(3, 18), "4", "4649045864", "966180245588973299471098192"},
		{raised(5, 12), "52", "2441406248", "234708310134949222687752016"},
		{735134400, "0", "719953920", "7637711960072476218922352640"},
		{999999937, "8", "7999999504", "15999996976000190511995999264"},
		{999999998, "0", "12017382720", "13999999958432038168679582080"},
		{999999999, "0", "12273643712", "16615711431262648738799387776"},
		{most, "40", "58593744", "18433179465993758170815640992"},
	} {
		checkMany(t, c.n, 2, c.ofTwo)
		checkMany(t, c.n, 4, c.ofFour)
		checkMany(t, c.n, 8, c.ofEight)
	}
}

// TestManyTellsItsFaultsInOrder: that of n ahead of that of k, and nothing beside a fault.
func TestManyTellsItsFaultsInOrder(t *testing.T) {
	numbers := append(beyond(), sample.Edges()...)
	numbers = append(numbers, 0, 1, 2, 25, most-1, most, most+1, most+2, 1<<32, 10*most, top)
	kinds := append(sample.Edges(), -8, -4, -2, -1, 0, 1, 2, 3, 4, 5, 6, 7, 8, 9, 10, 12, 16, 24, 32, 2+1<<32, 8-1<<32)
	outcomes := map[api.Fault]int{}
	for _, n := range numbers {
		for _, k := range kinds {
			want := wantRange(n, most)
			if want == none && k != 2 && k != 4 && k != 8 {
				want = faultOf(api.ErrKind, 1)
			}
			text, f := square.Many(n, k)
			if f != want || (text == "") != (want != none) {
				t.Errorf("Many(%d, %d): %q, %v, want %v", n, k, text, f, want)
			}
			outcomes[f]++
		}
	}
	if len(outcomes) != 3 {
		t.Errorf("not each outcome is met: %v", outcomes)
	}
}
