package grid_test

import (
	"math/big"
	"slices"
	"testing"

	"arithmetica/api"
	"arithmetica/sample"
)

const small = api.MaxSmall

var none api.Fault

func faultOf(code, at int) api.Fault { return api.Fault{Code: code, At: at} }

func large(n int) *big.Int { return big.NewInt(int64(n)) }

// bigs is a matrix of long numbers.
type bigs [][]*big.Int

func bigsOf(m [][]int) bigs {
	var answer bigs
	for _, row := range m {
		var line []*big.Int
		for _, n := range row {
			line = append(line, large(n))
		}
		answer = append(answer, line)
	}
	return answer
}

// decimals reads a matrix of so many rows and columns that a call wrote, and fails where a number is not written as it must be, or is too long.
func decimals(t *testing.T, m [][]string, rows, columns int) bigs {
	t.Helper()
	if len(m) != rows {
		t.Fatalf("%d rows, want %d: %v", len(m), rows, m)
	}
	var answer bigs
	for _, row := range m {
		if len(row) != columns {
			t.Fatalf("%d entries, want %d: %v", len(row), columns, m)
		}
		var line []*big.Int
		for _, text := range row {
			n, ok := new(big.Int).SetString(text, 10)
			if !ok || n.String() != text || len(text) > 20000 {
				t.Fatalf("%q is not written as a number", text)
			}
			line = append(line, n)
		}
		answer = append(answer, line)
	}
	return answer
}

func product(x, y bigs) bigs {
	answer := make(bigs, len(x))
	for i, row := range x {
		for j := range y[0] {
			sum := new(big.Int)
			for k, n := range row {
				sum.Add(sum, new(big.Int).Mul(n, y[k][j]))
			}
			answer[i] = append(answer[i], sum)
		}
	}
	return answer
}

func turned[T any](m [][]T) [][]T {
	answer := make([][]T, len(m[0]))
	for i := range answer {
		for _, row := range m {
			answer[i] = append(answer[i], row[i])
		}
	}
	return answer
}

func isSame(x, y bigs) bool {
	return slices.EqualFunc(x, y, func(a, b []*big.Int) bool {
		return slices.EqualFunc(a, b, func(m, n *big.Int) bool { return m.Cmp(n) == 0 })
	})
}

func isNought(list []*big.Int) bool {
	return !slices.ContainsFunc(list, func(n *big.Int) bool { return n.Sign() != 0 })
}

// expanded answers the determinant of m by going along its rows: for each set of columns, that of the rows so far and these columns, of which one is chosen for the last of the rows.
func expanded(m bigs) *big.Int {
	parts := map[int]*big.Int{0: large(1)}
	for _, row := range m {
		next := map[int]*big.Int{}
		for columns, part := range parts {
			sign := 1
			// With each chosen column that stands right of it, the sign turns.
			for j := len(row) - 1; j >= 0; j-- {
				if columns>>j&1 == 1 {
					sign = -sign
					continue
				}
				with := columns | 1<<j
				if next[with] == nil {
					next[with] = new(big.Int)
				}
				term := new(big.Int).Mul(part, row[j])
				next[with].Add(next[with], term.Mul(term, large(sign)))
			}
		}
		parts = next
	}
	return parts[1<<len(m)-1]
}

func isUnimodular(m bigs) bool {
	return expanded(m).CmpAbs(large(1)) == 0
}

// eliminated answers the determinant of m and its rank by fractions.
func eliminated(m bigs) (*big.Rat, int) {
	rows := make([][]*big.Rat, len(m))
	for i, row := range m {
		for _, n := range row {
			rows[i] = append(rows[i], new(big.Rat).SetInt(n))
		}
	}
	answer, rank := big.NewRat(1, 1), 0
	for column := range m[0] {
		at := rank
		for at < len(rows) && rows[at][column].Sign() == 0 {
			at++
		}
		if at == len(rows) {
			continue
		}
		if at > rank {
			rows[at], rows[rank] = rows[rank], rows[at]
			answer.Neg(answer)
		}
		answer.Mul(answer, rows[rank][column])
		for i := rank + 1; i < len(rows); i++ {
			times := new(big.Rat).Quo(rows[i][column], rows[rank][column])
			for j := range rows[i] {
				rows[i][j] = new(big.Rat).Sub(rows[i][j], new(big.Rat).Mul(times, rows[rank][j]))
			}
		}
		rank++
	}
	if rank < len(m) || rank < len(m[0]) {
		answer.SetInt64(0)
	}
	return answer, rank
}

func rankOf(m [][]int) int {
	_, rank := eliminated(bigsOf(m))
	return rank
}

// choices answers all rising lists of so many numbers below n.
func choices(n, many int) [][]int {
	if many == 0 {
		return [][]int{nil}
	}
	var answer [][]int
	for last := many - 1; last < n; last++ {
		for _, list := range choices(last, many-1) {
			answer = append(answer, append(slices.Clone(list), last))
		}
	}
	return answer
}

// divisorOfMinors answers the greatest common divisor of the determinants of all parts of m of so many rows and columns.
func divisorOfMinors(m bigs, size int) *big.Int {
	common := new(big.Int)
	for _, rows := range choices(len(m), size) {
		for _, columns := range choices(len(m[0]), size) {
			var part bigs
			for _, i := range rows {
				var line []*big.Int
				for _, j := range columns {
					line = append(line, m[i][j])
				}
				part = append(part, line)
			}
			common.GCD(nil, nil, common, new(big.Int).Abs(expanded(part)))
		}
	}
	return common
}

// stream is one of numbers, by which matrices are made.
type stream struct{ *sample.Stream }

func newStream() stream { return stream{sample.NewStream()} }

// ofRank answers a matrix whose rank is at most so many: the rows are sums of few ones.
func (s stream) ofRank(rows, columns, rank, most int) [][]int {
	left := sample.Filled(rows, rank, func(i, j int) int { return s.UpTo(most) })
	right := sample.Filled(rank, columns, func(i, j int) int { return s.UpTo(most) })
	return sample.Filled(rows, columns, func(i, j int) int {
		sum := 0
		for k := range rank {
			sum += left[i][k] * right[k][j]
		}
		return sum
	})
}

// shape answers matrices of so many rows and columns, of all kinds.
func (s stream) shape(rows, columns int) [][][]int {
	either := func(n int) int { return n * (1 - 2*s.Below(2)) }
	several := []int{2, 3, 4, 6, 12, 30, 36, 210, 2310, 30030}
	common := several[s.Below(len(several))]
	list := [][][]int{
		sample.Filled(rows, columns, func(i, j int) int { return 0 }),
		sample.Filled(rows, columns, func(i, j int) int { return small }),
		sample.Filled(rows, columns, func(i, j int) int { return either(small) }),
		sample.Filled(rows, columns, func(i, j int) int { return either(small - s.Below(1000)) }),
		sample.Filled(rows, columns, func(i, j int) int { return s.UpTo(small) }),
		sample.Filled(rows, columns, func(i, j int) int { return s.UpTo(1) }),
		sample.Filled(rows, columns, func(i, j int) int { return s.UpTo(3) }),
		sample.Filled(rows, columns, func(i, j int) int { return s.UpTo(100) }),
		sample.Filled(rows, columns, func(i, j int) int { return common * s.UpTo(small/common) }),
		sample.Filled(rows, columns, func(i, j int) int { return several[s.Below(len(several))] * s.UpTo(30) }),
		sample.Filled(rows, columns, func(i, j int) int { return 1000*i + j }),
		sample.Filled(rows, columns, func(i, j int) int { return i*columns + j + 1 }),
		// only the diagonal, and only what is right of it, or left of it
		sample.Filled(rows, columns, func(i, j int) int {
			if i == j {
				return either(several[s.Below(len(several))])
			}
			return 0
		}),
		sample.Filled(rows, columns, func(i, j int) int {
			if i == j {
				return 30030
			}
			return max(0, j-i) * s.UpTo(1000)
		}),
		sample.Filled(rows, columns, func(i, j int) int {
			if i == j {
				return 510510
			}
			return max(0, i-j) * s.UpTo(1000)
		}),
		// the same row again, its opposite and its double; noughts between
		sample.Filled(rows, columns, func(i, j int) int { return []int{j - 3, 0, 3 - j, 2*j - 6}[i%4] }),
		sample.Filled(rows, columns, func(i, j int) int { return []int{0, i + 2, 0, 5}[j%4] }),
		sample.Filled(rows, columns, func(i, j int) int { return (i % 2) * s.UpTo(small) }),
		// one entry alone
		sample.Filled(rows, columns, func(i, j int) int {
			if i == rows/2 && j == columns/2 {
				return -small
			}
			return 0
		}),
	}
	for rank := 1; rank < min(rows, columns); rank++ {
		list = append(list, s.ofRank(rows, columns, rank, 3), s.ofRank(rows, columns, rank, 377))
	}
	return list
}

// hadamard answers the matrix of eight rows and MaxSmall in size whose determinant is the greatest that there is.
func hadamard() [][]int {
	return sample.Filled(8, 8, func(i, j int) int {
		both := i & j
		if (both^both>>1^both>>2)&1 == 1 {
			return -small
		}
		return small
	})
}

// matrices answers matrices of all shapes and kinds, each of them right.
func matrices() [][][]int {
	s := newStream()
	list := [][][]int{
		hadamard(), {{2, 4}, {3, 5}}, {{2, 0}, {0, 3}}, {{4, 6}}, {{0, 0, 0}, {0, 4, 6}}, {{1, 2, 3}, {4, 5, 6}, {7, 8, 10}}, {{6, 10, 15}}, {{6}, {10}, {15}},
		{{2, 4, 4}, {-6, 6, 12}, {10, -4, -16}}, {{6, 0, 0}, {0, 10, 0}, {0, 0, 15}}, {{4, 0}, {0, 6}}, {{0, 1}, {1, 0}}, {{0, 0}, {7, 0}}, {{0, 7}, {0, 0}},
	}
	for rows := 1; rows <= 8; rows++ {
		for columns := 1; columns <= 8; columns++ {
			list = append(list, s.shape(rows, columns)...)
		}
	}
	return list
}

// squares answers those of matrices that are square, and some more of these.
func squares() [][][]int {
	list := slices.DeleteFunc(matrices(), func(m [][]int) bool { return len(m) != len(m[0]) })
	s := newStream()
	for size := 1; size <= 8; size++ {
		for range 30 {
			list = append(list, s.shape(size, size)[2:8]...)
		}
	}
	return list
}

// steep answers matrices of which one column must be added many times to another, until that has no divisor of its own: for some steps, each of seven primes divides it in turn. With the first one it takes 25, as many as seven primes can.
func steep() [][][]int {
	list := [][][]int{
		{{510510, 528011}, {0, 340499}}, {{510510, 54935}, {0, 962579}}, {{510510, 362770}, {0, 819557}}, {{510510, 234021}, {0, 616831}}, {{510510, 0}, {528011, 340499}},
		{{340499, 0, 0}, {528011, 510510, 0}, {362770, 54935, 819557}}, {{510510, 528011, 0, 0}, {0, 340499, 0, 0}, {0, 0, 510510, 54935}, {0, 0, 0, 962579}},
	}
	for ahead := 2; ahead < 2000; ahead += 37 {
		list = append(list, [][]int{{ahead * 30, 1}, {0, 510510}}, [][]int{{ahead * 210, 17}, {510510, 0}}, [][]int{{510510, 1, 0}, {0, 510510, ahead}, {0, 0, 510510}})
	}
	return list
}
