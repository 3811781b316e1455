package bern_test

import (
	"math/big"
	"sync"
	"testing"

	"arithmetica/api"
	"arithmetica/bern"
)

// choices are, of each k, in how many ways 0, 1, .., k of k things can be chosen.
func choices() [][]*big.Int {
	var rows [][]*big.Int
	for k := range mostNumber + 1 {
		var row []*big.Int
		for j := range k + 1 {
			row = append(row, choose(k, j))
		}
		rows = append(rows, row)
	}
	return rows
}

// ontoSets answers in how many ways n things can be put into k sets that are told apart, none of which is empty: all ways, less those that leave one of them empty, and so on (each power is that of its place, by n; ways are the choices of k things).
func ontoSets(powers, ways []*big.Int, k int) *big.Int {
	sum := new(big.Int)
	for j := range k + 1 {
		term := new(big.Int).Mul(ways[j], powers[j])
		if (k-j)%2 == 1 {
			term.Neg(term)
		}
		sum.Add(sum, term)
	}
	return sum
}

// checkSetsOf holds Sets of n things against ontoSets, of all k.
func checkSetsOf(t *testing.T, n int, choices [][]*big.Int) {
	var powers []*big.Int
	for j := range mostNumber + 1 {
		powers = append(powers, power(bigOf(j), n))
	}
	orders := big.NewInt(1)
	for k := range mostNumber + 1 {
		orders.Mul(orders, bigOf(max(k, 1)))
		want, left := new(big.Int).QuoRem(ontoSets(powers, choices[k], k), orders, new(big.Int))
		text, f := bern.Sets(n, k)
		if text != want.String() || left.Sign() != 0 || f != none {
			t.Errorf("Sets(%d, %d): %q, %v, want %v", n, k, text, f, want)
			return
		}
	}
}

// TestSetsOfAllNumbers: Sets against another way of counting, of all that it takes. Several calls run at the same time.
func TestSetsOfAllNumbers(t *testing.T) {
	var workers sync.WaitGroup
	rows := choices()
	for start := range 8 {
		workers.Go(func() {
			for n := start; n <= mostNumber; n += 8 {
				checkSetsOf(t, n, rows)
			}
		})
	}
	workers.Wait()
}

// allWays hands over all ways to put n things into k sets: which set each thing is put in.
func allWays(n, k int, do func(way []int)) {
	way := make([]int, n)
	var put func(i int)
	put = func(i int) {
		if i == n {
			do(way)
			return
		}
		for set := range k {
			way[i] = set
			put(i + 1)
		}
	}
	put(0)
}

// sorted answers a way in which the sets are told by the first things in them alone, rising, and how many of them aren't empty.
func sorted(way []int, k int) (key [8]int, many int) {
	first := make([]int, k)
	for i, set := range way {
		if first[set] == 0 {
			many++
			first[set] = many
		}
		key[i] = first[set]
	}
	return key, many
}

func TestSetsByTryingAllWays(t *testing.T) {
	for n := range 8 {
		for k := range 9 {
			ways := map[[8]int]int{}
			allWays(n, k, func(way []int) {
				if key, many := sorted(way, k); many == k {
					ways[key]++
				}
			})
			if text, f := bern.Sets(n, k); text != bigOf(len(ways)).String() || f != none {
				t.Errorf("Sets(%d, %d): %q, %v, want %d", n, k, text, f, len(ways))
			}
		}
	}
}

func TestSetsOfChosenNumbers(t *testing.T) {
	for _, c := range []struct {
		n, k int
		want string
	}{
		{0, 0, "1"}, {1, 0, "0"}, {200, 0, "0"}, {0, 1, "0"}, {0, 200, "0"}, {1, 1, "1"}, {1, 2, "0"}, {3, 2, "3"}, {4, 2, "7"}, {5, 3, "25"}, {10, 5, "42525"}, {10, 10, "1"}, {10, 11, "0"},
		{199, 200, "0"}, {200, 1, "1"}, {200, 200, "1"}, {200, 199, "19900"}, {200, 198, "195368250"},
		{200, 2, "803469022129495137770981046170581301261101496891396417650687"},
	} {
		if text, f := bern.Sets(c.n, c.k); text != c.want || f != none {
			t.Errorf("Sets(%d, %d): %q, %v, want %s", c.n, c.k, text, f, c.want)
		}
	}
}

// wantSets is which fault P18.4 tells.
func wantSets(n, k int) api.Fault {
	if !isUpTo(mostNumber, n) {
		return rangeAt(0)
	}
	if !isUpTo(mostNumber, k) {
		return rangeAt(1)
	}
	return none
}

func TestSetsTellTheirFaults(t *testing.T) {
	outcomes := map[api.Fault]int{}
	for _, n := range wrongs() {
		for _, k := range wrongs() {
			want := wantSets(n, k)
			text, f := bern.Sets(n, k)
			if f != want || (f != none) != (text == "") {
				t.Fatalf("Sets(%d, %d): %q, %v, want %v", n, k, text, f, want)
			}
			outcomes[f]++
		}
	}
	if len(outcomes) != 3 {
		t.Errorf("not each outcome is met: %v", outcomes)
	}
}
