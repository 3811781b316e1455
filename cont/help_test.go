package cont_test

import (
	"math/big"
	"slices"

	"arithmetica/api"
)

const (
	top   = api.MaxNum
	small = api.MaxSmall
)

var none api.Fault

func faultOf(code, at int) api.Fault { return api.Fault{Code: code, At: at} }

func frac(up, down int) api.Frac { return api.Frac{Up: up, Down: down} }

func large(n int) *big.Int { return big.NewInt(int64(n)) }

// decimal reads what a call wrote; what is not written as it must be is nil.
func decimal(text string) *big.Int {
	n, ok := new(big.Int).SetString(text, 10)
	if !ok || n.String() != text {
		return nil
	}
	return n
}

func sum(list ...*big.Int) *big.Int {
	answer := new(big.Int)
	for _, n := range list {
		answer.Add(answer, n)
	}
	return answer
}

func product(list ...*big.Int) *big.Int {
	answer := large(1)
	for _, n := range list {
		answer.Mul(answer, n)
	}
	return answer
}

func less(x, y *big.Int) *big.Int { return new(big.Int).Sub(x, y) }

// isSquare tells whether n is a square of a whole number.
func isSquare(n *big.Int) bool {
	if n.Sign() < 0 {
		return false
	}
	root := new(big.Int).Sqrt(n)
	return product(root, root).Cmp(n) == 0
}

func isNumber(n *big.Int) bool { return n.CmpAbs(large(top)) <= 0 }

// comesTo is the chapter's sentence, for a list whose entries behind the first are above 0.
func comesTo(l []int) *big.Rat {
	first := new(big.Rat).SetInt(large(l[0]))
	if len(l) == 1 {
		return first
	}
	return first.Add(first, new(big.Rat).Inv(comesTo(l[1:])))
}

// euclid answers the list of up / down, for down above 0, by long numbers, or its beginning of so many entries.
func euclid(up, down *big.Int, most int) []*big.Int {
	var list []*big.Int
	for down.Sign() != 0 && len(list) < most {
		quotient, rest := new(big.Int).DivMod(up, down, new(big.Int))
		list = append(list, quotient)
		up, down = down, rest
	}
	return list
}

// beginning answers the first so many entries of the list that comes to (p + the root of d) / q: those that two fractions share, between which it lies, with ever more bits.
func beginning(d, p, q, many int) []int {
	for bits := uint(64 + 4*many); ; bits *= 2 {
		one := new(big.Int).Lsh(large(1), bits)
		root := new(big.Int).Sqrt(product(large(d), one, one))
		up, down := sum(product(large(p), one), root), product(large(q), one)
		below, above := euclid(up, down, many+1), euclid(sum(up, large(1)), down, many+1)
		// The last entry of a list with an end says less of what lies nearby.
		if len(below) <= many || len(above) <= many {
			continue
		}
		if slices.EqualFunc(below[:many], above[:many], func(x, y *big.Int) bool { return x.Cmp(y) == 0 }) {
			return ints(below[:many])
		}
	}
}

func ints(list []*big.Int) []int {
	var answer []int
	for _, n := range list {
		answer = append(answer, int(n.Int64()))
	}
	return answer
}

// shortest answers the least length, up to so many, of a part that comes again and again in list; 0, if there is none.
func shortest(list []int, most int) int {
	for k := 1; k <= most; k++ {
		if slices.Equal(list[k:], list[:len(list)-k]) {
			return k
		}
	}
	return 0
}

// wrongRoot tells what is wrong with d, but for the length of its list.
func wrongRoot(d int) api.Fault {
	if d < 2 || d > small {
		return faultOf(api.ErrRange, 0)
	}
	if isSquare(large(d)) {
		return faultOf(api.ErrKind, 0)
	}
	return none
}

// wrongUnit is wrongRoot for Unit.
func wrongUnit(d int) api.Fault {
	if f := wrongRoot(d); f != none {
		return f
	}
	for k := 2; k*k <= d; k++ {
		if d%(k*k) == 0 {
			return faultOf(api.ErrKind, 0)
		}
	}
	return none
}

// begin answers p and q so that Unit goes by the list that comes to (p + the root of d) / q.
func begin(d int) (p, q int) {
	if d%4 == 1 {
		return 1, 2
	}
	return 0, 1
}

// roots are all small d, those next to squares and to MaxSmall, and some of all lengths: those that are wrong, too.
func roots(many int) []int {
	var list []int
	for d := 2; d <= many; d++ {
		list = append(list, d)
	}
	for root := 2; root <= 1000; root = root*5/4 + 1 {
		list = append(list, root*root-2, root*root-1, root*root, root*root+1, root*root+2)
	}
	for d := small - 40; d <= small; d++ {
		list = append(list, d)
	}
	for d := many; d < small; d = d*12/11 + 5 {
		list = append(list, d)
	}
	slices.Sort(list)
	return slices.DeleteFunc(slices.Compact(list), func(d int) bool { return d < 2 || d > small })
}

// longRoots are d whose list comes again after just so many entries.
func longRoots() map[int]int {
	return map[int]int{
		170179: 998, 314281: 998, 183661: 999, 267961: 999, 224911: 1000, 239164: 1000, 251161: 1000, 293869: 1000,
		202309: 1001, 283861: 1001, 192886: 1002, 240361: 1002, 462214: 1742, 799621: 2383, 969406: 2664,
	}
}

// longHalves are d of which that is so of the list of (1 + root) / 2.
func longHalves() map[int]int {
	return map[int]int{
		268009: 998, 239929: 999, 283369: 999, 249481: 1000, 258049: 1000, 321169: 1001, 374641: 1001, 237241: 1002, 243961: 1002, 979969: 2349,
	}
}
