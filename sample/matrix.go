package sample

import (
	"math"

	"arithmetica/api"
)

// Stream hands out numbers one after the other, the same ones each time.
type Stream struct {
	list []int
	at   int
}

// NewStream answers a Stream from its beginning on.
func NewStream() *Stream { return &Stream{list: Spread(60000)} }

// UpTo answers a number of any length, from -most to most.
func (s *Stream) UpTo(most int) int {
	s.at++
	return s.list[s.at%len(s.list)] % (most + 1)
}

// Below answers a number from 0 to n - 1.
func (s *Stream) Below(n int) int {
	x := s.UpTo(api.MaxNum - 1)
	return max(x, -x) % n
}

// Filled answers a matrix whose entries are told one by one.
func Filled(rows, columns int, entry func(i, j int) int) [][]int {
	m := make([][]int, rows)
	for i := range m {
		for j := range columns {
			m[i] = append(m[i], entry(i, j))
		}
	}
	return m
}

// Ones answers a matrix of small numbers, the first row and the first column of which are ones.
func Ones(rows, columns int) [][]int {
	return Filled(rows, columns, func(i, j int) int { return 1 + i*j })
}

// With answers m with one entry of another value.
func With(m [][]int, i, j, value int) [][]int {
	m = Guarded(m)
	m[i][j] = value
	return m
}

// Longer answers m with one row of so many entries.
func Longer(m [][]int, i, length int) [][]int {
	m = Guarded(m)
	m[i] = make([]int, length)
	return m
}

// Beyond are numbers that are above MaxSmall in size.
func Beyond() []int {
	const small = api.MaxSmall
	return []int{small + 1, -small - 1, 2 * small, -2 * small, api.MaxNum, -api.MaxNum, math.MaxInt, math.MinInt, math.MinInt + 1, 1 << 32, -1 << 32, 1<<32 + 1}
}

// Spoilt answers matrices with one fault or several, where there may be most rows, up to 8, and 8 entries a row: in how many there are, in lengths that differ, and in entries above MaxSmall.
func Spoilt(most int) [][][]int {
	const small = api.MaxSmall
	list := [][][]int{nil, {}, {nil}, {{}}, {{}, {}}, {nil, {1}}, {{}, {1}, {1, 2}}, {{small + 1}, {}}, {{}, {small + 1}}, {{small + 1, 0}, {small + 1}}}
	for _, many := range []int{9, 10, 16, 64, 1000, 100000} {
		list = append(list, Ones(1, many), Ones(2, many), Ones(most, many), With(Ones(3, many), 0, 0, small+1))
	}
	for _, many := range []int{most + 1, most + 2, 9, 10, 16, 64, 1000, 100000} {
		list = append(list, Ones(many, 1), Ones(many, 8), Ones(many, 9), make([][]int, many), With(Ones(many, 2), 0, 0, small+1), Longer(Ones(many, 2), 1, 3))
	}
	for rows := 1; rows <= most; rows++ {
		for columns := 1; columns <= 8; columns++ {
			list = append(list, spoilt(Ones(rows, columns))...)
		}
	}
	for _, value := range Beyond() {
		for at := range 9 {
			i, j := at/3, at%3
			list = append(list, With(Ones(3, 3), i, j, value), With(With(Ones(3, 3), i, j, value), 2-i, 2-j, -small-1))
		}
	}
	return list
}

// spoilt answers m with rows of other lengths, and with entries that are too great.
func spoilt(m [][]int) [][][]int {
	const small = api.MaxSmall
	rows, columns := len(m), len(m[0])
	list := [][][]int{Longer(m, 0, 9), Longer(m, 0, 0)}
	for i := 1; i < rows; i++ {
		list = append(list, Longer(m, i, 0), Longer(m, i, columns-1), Longer(m, i, columns+1), Longer(m, i, 9), Longer(Longer(m, i, 0), rows-1, 9))
		// The row ahead has an entry that is too great, but that is told later.
		list = append(list, Longer(With(m, i-1, columns-1, small+1), i, columns+1), Longer(With(m, 0, 0, math.MinInt), i, 0))
	}
	for i := range rows {
		value := Beyond()[(rows+columns+i)%len(Beyond())]
		list = append(list, With(m, i, 0, value), With(m, i, columns-1, -small-1), With(m, i, columns/2, small+1), With(With(m, i, 0, small+1), rows-1, columns-1, value))
	}
	return list
}

// Guarded copies m, and lays foreign numbers behind each row's length, and a foreign row behind the rows'.
func Guarded(m [][]int) [][]int {
	answer := make([][]int, 0, len(m)+2)
	for _, row := range m {
		answer = append(answer, GuardedRow(row))
	}
	_ = append(answer, []int{77, 78})
	return answer
}

// GuardedRow copies row, and lays foreign numbers behind its length.
func GuardedRow(row []int) []int {
	answer := make([]int, len(row), len(row)+2)
	copy(answer, row)
	_ = append(answer, 99, 98)
	return answer
}

// Memory copies all that lies in the memory of m, behind its lengths, too; ahead of each row stands its length.
func Memory(m [][]int) [][]int {
	var answer [][]int
	for _, row := range m[:cap(m)] {
		answer = append(answer, append([]int{len(row)}, row[:cap(row)]...))
	}
	return answer
}
