package equation_test

import (
	"fmt"
	"math/big"
	"slices"
	"testing"

	"arithmetica/api"
	"arithmetica/equation"
)

func markovOf(t *testing.T, most int) [][3]int {
	t.Helper()
	list, f := equation.Markov(most)
	if f != none {
		t.Fatalf("Markov(%d): %v", most, f)
	}
	return list
}

// isMarkov puts a triple into the equation, by numbers of any length.
func isMarkov(p [3]int) bool {
	x, y, z := p[0], p[1], p[2]
	return sum(product(x, x), product(y, y), product(z, z)).Cmp(product(3, x, y, z)) == 0
}

// TestMarkovByTryingAllTriples: P16.4 of each small most.
func TestMarkovByTryingAllTriples(t *testing.T) {
	const limit = 250
	var all [][3]int
	for z := 1; z <= limit; z++ {
		for y := 1; y <= z; y++ {
			for x := 1; x <= y; x++ {
				if x*x+y*y+z*z == 3*x*y*z {
					all = append(all, [3]int{x, y, z})
				}
			}
		}
	}
	for most := range limit + 1 {
		if list := markovOf(t, most); !slices.Equal(list, upTo(most, all)) {
			t.Fatalf("Markov(%d): %v", most, list)
		}
	}
}

// TestMarkovByTryingAllPairs: of each x and y up to a bound the z is the root of z^2 - 3 x y z + x^2 + y^2, and may be great.
func TestMarkovByTryingAllPairs(t *testing.T) {
	const bound = 2500
	var want [][3]int
	for y := 1; y <= bound; y++ {
		for x := 1; x <= y; x++ {
			square := 9*x*x*y*y - 4*x*x - 4*y*y
			// A square leaves 0, 1 or 4, left by 8: that leaves few of which to take the root.
			if left := square % 8; left != 0 && left != 1 && left != 4 {
				continue
			}
			root := int(new(big.Int).Sqrt(large(square)).Int64())
			if root*root != square {
				continue
			}
			for _, twice := range []int{3*x*y - root, 3*x*y + root} {
				if twice%2 == 0 && twice/2 >= y && !slices.Contains(want, [3]int{x, y, twice / 2}) {
					want = append(want, [3]int{x, y, twice / 2})
				}
			}
		}
	}
	slices.SortFunc(want, func(p, q [3]int) int {
		if isBefore(p, q, 2, 1, 0) {
			return -1
		}
		return 1
	})
	list := slices.DeleteFunc(markovOf(t, api.MaxNum), func(p [3]int) bool { return p[1] > bound })
	if !slices.Equal(list, want) || len(want) < 25 {
		t.Errorf("%v, want %v", list, want)
	}
}

// greatBounds are the greatest most, numbers of all lengths below it, and those at which triples begin and beside them.
func greatBounds(t *testing.T) []int {
	bounds := []int{0, 1, 2, top - 1, top, top / 2, top / 3, top/3 + 1, 1<<31 - 1, 1 << 32, 1 << 53}
	for n := 1; n <= top/10; n *= 10 {
		bounds = append(bounds, n, 3*n, 10*n)
	}
	for _, p := range markovOf(t, api.MaxNum) {
		bounds = append(bounds, p[2]-1, p[2], p[2]+1)
	}
	return bounds
}

// neighbours answers those with 3 times the product of two numbers less the third one in its place, rising, as far as their numbers are at most most.
func neighbours(p [3]int, most int) [][3]int {
	var list [][3]int
	for i := range 3 {
		n := sum(product(3, p[(i+1)%3], p[(i+2)%3]), large(-p[i]))
		if n.Cmp(large(most)) > 0 {
			continue
		}
		q := p
		q[i] = int(n.Int64())
		slices.Sort(q[:])
		list = append(list, q)
	}
	return list
}

// TestMarkovOfGreatBounds: each triple is put into the equation, they rise, and all neighbours are there.
func TestMarkovOfGreatBounds(t *testing.T) {
	for _, most := range greatBounds(t) {
		list := markovOf(t, most)
		there := map[[3]int]bool{}
		for i, p := range list {
			if p[0] < 1 || p[0] > p[1] || p[1] > p[2] || p[2] > most || !isMarkov(p) {
				t.Fatalf("Markov(%d): %v is none", most, p)
			}
			if i > 0 && !isBefore(list[i-1], p, 2, 1, 0) {
				t.Fatalf("Markov(%d): %v stands behind %v", most, p, list[i-1])
			}
			there[p] = true
		}
		for p := range there {
			for _, q := range neighbours(p, most) {
				if !there[q] {
					t.Fatalf("Markov(%d): %v is there, and its neighbour %v is not", most, p, q)
				}
			}
		}
		if there[[3]int{1, 1, 1}] != (most >= 1) {
			t.Fatalf("Markov(%d): %v", most, list)
		}
	}
}

// TestMarkovOfALesserBound: it is the beginning of what the greatest one leads to.
func TestMarkovOfALesserBound(t *testing.T) {
	all := markovOf(t, api.MaxNum)
	for _, most := range greatBounds(t) {
		if list := markovOf(t, most); !slices.Equal(list, upTo(most, all)) {
			t.Fatalf("Markov(%d): %v", most, list)
		}
	}
}

// cohn is a matrix of two rows of two numbers, row by row.
type cohn [4]*big.Int

func (m cohn) times(n cohn) cohn {
	entry := func(i, j int) *big.Int {
		return sum(new(big.Int).Mul(m[2*i], n[j]), new(big.Int).Mul(m[2*i+1], n[2+j]))
	}
	return cohn{entry(0, 0), entry(0, 1), entry(1, 0), entry(1, 1)}
}

// TestMarkovByCohnsMatrices: all triples but the first two stand at the second place of matrices M, N and M N, where M and N are those of 1 and 2 at first, and then M and M N, or M N and N (Cohn).
func TestMarkovByCohnsMatrices(t *testing.T) {
	want := [][3]int{{1, 1, 1}, {1, 1, 2}}
	var split func(m, n cohn)
	split = func(m, n cohn) {
		both := m.times(n)
		if both[1].Cmp(large(top)) > 0 {
			return
		}
		p := [3]int{int(m[1].Int64()), int(n[1].Int64()), int(both[1].Int64())}
		slices.Sort(p[:])
		want = append(want, p)
		split(m, both)
		split(both, n)
	}
	split(cohn{large(1), large(1), large(1), large(2)}, cohn{large(3), large(2), large(4), large(3)})
	slices.SortFunc(want, func(p, q [3]int) int {
		if isBefore(p, q, 2, 1, 0) {
			return -1
		}
		return 1
	})
	if list := markovOf(t, top); !slices.Equal(list, want) {
		t.Errorf("%v, want %v", list, want)
	}
}

func TestMarkovOfChosenNumbers(t *testing.T) {
	for most, want := range map[int]string{
		0:  "[]",
		1:  "[[1 1 1]]",
		2:  "[[1 1 1] [1 1 2]]",
		4:  "[[1 1 1] [1 1 2]]",
		5:  "[[1 1 1] [1 1 2] [1 2 5]]",
		30: "[[1 1 1] [1 1 2] [1 2 5] [1 5 13] [2 5 29]]",
		34: "[[1 1 1] [1 1 2] [1 2 5] [1 5 13] [2 5 29] [1 13 34]]",
	} {
		if list := markovOf(t, most); fmt.Sprint(list) != want {
			t.Errorf("Markov(%d): %v, want %s", most, list, want)
		}
	}
	if list := markovOf(t, top); len(list) != 328 || list[327] != [3]int{144059117, 2151239746, 929717094792192841} {
		t.Errorf("Markov(%d): %d, the last one %v", top, len(list), list[len(list)-1])
	}
	var last []int
	for _, p := range markovOf(t, 1000) {
		last = append(last, p[2])
	}
	if !slices.Equal(last, []int{1, 2, 5, 13, 29, 34, 89, 169, 194, 233, 433, 610, 985}) {
		t.Errorf("up to 1000 the greatest numbers are %v", last)
	}
}

func TestMarkovTellsItsFault(t *testing.T) {
	outcomes := map[api.Fault]int{}
	for _, most := range wrongs() {
		want := none
		if most < 0 || most > top {
			want = faultOf(api.ErrRange, 0)
		}
		list, f := equation.Markov(most)
		if f != want || f != none && len(list) != 0 {
			t.Errorf("Markov(%d): %v, %v, want %v", most, list, f, want)
		}
		outcomes[f]++
	}
	if len(outcomes) != 2 {
		t.Errorf("not each outcome is met: %v", outcomes)
	}
}
