package lattice_test

import (
	"math/big"
	"math/bits"
	"slices"

	"arithmetica/api"
	"arithmetica/sample"
)

const small = api.MaxSmall

var none api.Fault

func faultOf(code, at int) api.Fault { return api.Fault{Code: code, At: at} }

func fraction(up, down int) *big.Rat { return big.NewRat(int64(up), int64(down)) }

func isWithin(x, low, high *big.Rat) bool { return x.Cmp(low) >= 0 && x.Cmp(high) <= 0 }

func norm(v []int) int {
	sum := 0
	for _, n := range v {
		sum += n * n
	}
	return sum
}

// fractions is a vector of them.
type fractions []*big.Rat

func fractionsOf(v []int) fractions {
	var answer fractions
	for _, n := range v {
		answer = append(answer, fraction(n, 1))
	}
	return answer
}

func (x fractions) times(y fractions) *big.Rat {
	sum := new(big.Rat)
	for i := range x {
		sum.Add(sum, new(big.Rat).Mul(x[i], y[i]))
	}
	return sum
}

func (x fractions) less(times *big.Rat, y fractions) fractions {
	var answer fractions
	for i := range x {
		answer = append(answer, new(big.Rat).Sub(x[i], new(big.Rat).Mul(times, y[i])))
	}
	return answer
}

// stars is a basis, its b*i, their norms, and its mij, in the chapter's own words.
type stars struct {
	rows  []fractions
	stars []fractions
	norms []*big.Rat
	m     [][]*big.Rat
}

// starsOf answers the stars of b, and false, where one of them is 0: then a row is a sum of multiples of those ahead.
func starsOf(b [][]int) (stars, bool) {
	var x stars
	for _, row := range b {
		own := fractionsOf(row)
		x.rows = append(x.rows, own)
		star := own
		var parts []*big.Rat
		for j, ahead := range x.stars {
			part := new(big.Rat).Quo(own.times(ahead), x.norms[j])
			star = star.less(part, ahead)
			parts = append(parts, part)
		}
		square := star.times(star)
		if square.Sign() == 0 {
			return stars{}, false
		}
		x.stars, x.norms, x.m = append(x.stars, star), append(x.norms, square), append(x.m, parts)
	}
	return x, true
}

// isReduced is the chapter's sentence on reduced bases.
func (x stars) isReduced() bool {
	for i := range x.rows {
		for j := range i {
			if !isWithin(x.m[i][j], fraction(-1, 2), fraction(1, 2)) {
				return false
			}
		}
		if i == 0 {
			continue
		}
		ahead := x.m[i][i-1]
		least := new(big.Rat).Sub(fraction(3, 4), new(big.Rat).Mul(ahead, ahead))
		if x.norms[i].Cmp(least.Mul(least, x.norms[i-1])) < 0 {
			return false
		}
	}
	return true
}

// has tells whether v is a sum of whole multiples of the rows.
func (x stars) has(v []int) bool {
	left := fractionsOf(v)
	for i, star := range slices.Backward(x.stars) {
		times := new(big.Rat).Quo(left.times(star), x.norms[i])
		if !times.IsInt() {
			return false
		}
		left = left.less(times, x.rows[i])
	}
	return left.times(left).Sign() == 0
}

// hasAll tells whether each of the vectors is a sum of whole multiples of the rows.
func (x stars) hasAll(list [][]int) bool {
	return !slices.ContainsFunc(list, func(v []int) bool { return !x.has(v) })
}

// least answers the least norm of a vector that is not 0. From the last row on, it tries the multiples with which the parts along the stars so far are not longer than what is found already.
func (x stars) least() *big.Rat {
	best := x.norms[0]
	for _, row := range x.rows {
		if square := row.times(row); square.Cmp(best) < 0 {
			best = square
		}
	}
	multiples := make(fractions, len(x.rows))
	var seek func(i int, sum *big.Rat)
	seek = func(i int, sum *big.Rat) {
		if i < 0 {
			if sum.Sign() > 0 && sum.Cmp(best) < 0 {
				best = sum
			}
			return
		}
		shift := new(big.Rat)
		for k := i + 1; k < len(x.rows); k++ {
			shift.Add(shift, new(big.Rat).Mul(multiples[k], x.m[k][i]))
		}
		first := new(big.Int).Div(shift.Num(), shift.Denom())
		first.Neg(first)
		for _, step := range []int64{1, -1} {
			times := new(big.Rat).SetInt(first)
			if step < 0 {
				times.Add(times, fraction(-1, 1))
			}
			for {
				along := new(big.Rat).Add(times, shift)
				with := along.Mul(along, along)
				with.Mul(with, x.norms[i]).Add(with, sum)
				if with.Cmp(best) > 0 {
					break
				}
				multiples[i] = new(big.Rat).Set(times)
				seek(i-1, with)
				times.Add(times, big.NewRat(step, 1))
			}
		}
	}
	seek(len(x.rows)-1, new(big.Rat))
	return best
}

// identity answers so many rows, each with the number at its own place, and noughts elsewhere.
func identity(rows, columns, number int) [][]int {
	return sample.Filled(rows, columns, func(i, j int) int { return where(i == j, number) })
}

func where(is bool, n int) int {
	if is {
		return n
	}
	return 0
}

// stairs answers rows whose neighbours are joined: 1 and -1 at two places next to each other. No vector but 0 is shorter than these.
func stairs(rows, columns int) [][]int {
	return sample.Filled(rows, columns, func(i, j int) int { return where(i == j, 1) - where(i+1 == j, 1) })
}

// hadamard answers rows that stand upright on each other, with all entries MaxSmall in size, of which there are eight.
func hadamard(rows int) [][]int {
	return sample.Filled(rows, 8, func(i, j int) int { return small - where(bits.OnesCount(uint(i&j))%2 == 1, 2*small) })
}

// mixed answers another basis of the lattice of b: rows are added to others, many times, as long as no entry becomes too great.
func mixed(s *sample.Stream, b [][]int) [][]int {
	b = sample.Guarded(b)
	for range 60 {
		i, j, times := s.Below(len(b)), s.Below(len(b)), s.UpTo(1000)
		sum := plus(b[i], times, b[j])
		if i != j && slices.Max(sum) <= small && slices.Min(sum) >= -small {
			b[i] = sum
		}
	}
	return b
}

func plus(x []int, times int, y []int) []int {
	var sum []int
	for i := range x {
		sum = append(sum, x[i]+times*y[i])
	}
	return sum
}

// kinds answers bases of so many rows and columns, of all kinds.
func kinds(s *sample.Stream, rows, columns int) [][][]int {
	fill := func(entry func(i, j int) int) [][]int { return sample.Filled(rows, columns, entry) }
	either := func(n int) int { return n * (1 - 2*s.Below(2)) }
	size := []int{1, 2, 30, 1000, 31416, small}
	along := fill(func(i, j int) int { return s.UpTo(small) })[0]
	list := [][][]int{
		fill(func(i, j int) int { return s.UpTo(1) }),
		fill(func(i, j int) int { return s.UpTo(3) }),
		fill(func(i, j int) int { return s.UpTo(100) }),
		fill(func(i, j int) int { return s.UpTo(small) }),
		fill(func(i, j int) int { return either(small) }),
		fill(func(i, j int) int { return either(small - s.Below(3)) }),
		fill(func(i, j int) int { return either(small - s.Below(1000)) }),
		fill(func(i, j int) int { return small - s.Below(10) }),
		// rows that are longer, or shorter, than those ahead
		fill(func(i, j int) int { return s.UpTo(size[i]) }),
		fill(func(i, j int) int { return s.UpTo(size[5-i]) }),
		// the diagonal, and one great column, or what is right of it
		fill(func(i, j int) int { return where(i == j, 1) + where(i < j && j == columns-1, s.UpTo(small)) }),
		fill(func(i, j int) int { return where(i == j, 1) + where(i < j, s.UpTo(small)) }),
		fill(func(i, j int) int { return where(i == j, 7) + where(i > j, either(small)) }),
		fill(func(i, j int) int { return where(i == j, small) + where(i > j, s.UpTo(small)) }),
		// nearly multiples of the same vector
		fill(func(i, j int) int { return along[j]/5*(i+1) + s.UpTo(1) }),
		fill(func(i, j int) int { return along[j] - i*s.Below(2) }),
		fill(func(i, j int) int { return (small-9)/(i+1)*(j%3-1) + s.UpTo(9) }),
		mixed(s, identity(rows, columns, 1)),
		mixed(s, identity(rows, columns, 1000)),
		mixed(s, sample.Filled(rows, columns, func(i, j int) int { return s.UpTo(3) })),
	}
	return slices.DeleteFunc(list, func(b [][]int) bool {
		_, ok := starsOf(b)
		return !ok
	})
}

// chosen answers bases that the chapter, or the tests' own words, name.
func chosen() [][][]int {
	list := [][][]int{
		{{1, 2}, {3, 4}}, {{5, 0}, {3, 4}}, {{1, 0}, {1, 1}}, {{1, 0}, {0, 1}}, {{201, 37}, {1648, 297}}, {{2, 0, 0}, {1, 1, 1}}, {{2, 1}, {1, 2}},
		{{1}}, {{-1}}, {{small}}, {{-small}}, {{0, 0, 0, 0, 0, 0, 0, -small}}, {{small, small, small, small, small, small, small, small}},
		{{small, small - 1}, {small - 1, small - 2}}, {{small, small - 1}, {-small + 1, small}}, {{1, small}, {0, 1}}, {{small, 1}, {1, 0}},
		// what is reduced has an entry above MaxSmall: 0 0 0 0 2000000
		{{small, small, small, small, small}, {small, small, small, small, -small}},
	}
	for rows := 1; rows <= 5; rows++ {
		list = append(list, hadamard(rows), identity(rows, rows, 1), identity(rows, 8, small), stairs(rows, 8))
	}
	return list
}

// crooked answers bases that are reduced, though only just so, and of which the shortest vector has a row twice.
func crooked() [][][]int {
	return [][][]int{
		{{200, 0, 0, 0, 0}, {-100, 142, 0, 0, 0}, {90, 56, 110, 0, 0}, {-100, -71, 55, 78, 0}, {100, 71, -44, 31, 61}},
		{{100000, 0, 0, 0, 0}, {50000, 70711, 0, 0, 0}, {-50000, 35355, 50001, 0, 0}, {30000, -35355, 25000, 35357, 0}, {40000, -35355, 25000, -17678, 25002}},
		{{1000, 0, 0, 0, 0}, {-500, 708, 0, 0, 0}, {400, -354, 501, 0, 0}, {300, 354, 225, 371, 0}, {300, 354, 225, -185, 263}},
		{{100000, 0, 0, 0, 0}, {-50000, 70711, 0, 0, 0}, {30000, 31819, 52322, 0, 0}, {50000, 35355, -26161, 36998, 0}, {-50000, 21213, 15696, -18499, 26162}},
		{{100000, 0, 0, 0, 0}, {30000, 81241, 0, 0, 0}, {50000, 40620, 57447, 0, 0}, {-50000, -40620, 28723, 40622, 0}, {-50000, 40620, -22978, 18279, 30059}},
		{{200, 0, 0, 0, 0}, {80, 154, 0, 0, 0}, {60, 77, 109, 0, 0}, {-100, 61, -54, 78, 0}, {-100, 46, 32, -39, 56}},
		{{100000, 0, 0, 0, 0}, {-50000, 70711, 0, 0, 0}, {30000, 35355, 50001, 0, 0}, {50000, -28284, 25000, 35357, 0}, {50000, 21213, 15000, 17678, 25002}},
	}
}

// bases answers bases of all shapes and kinds, each of them right.
func bases() [][][]int {
	s := sample.NewStream()
	list := append(chosen(), crooked()...)
	for rows := 1; rows <= 5; rows++ {
		for columns := rows; columns <= 8; columns++ {
			for range 3 {
				list = append(list, kinds(s, rows, columns)...)
			}
		}
	}
	return list
}
