package desk_test

import (
	"math/big"
	"regexp"
	"strings"

	"arithmetica/api"
)

// shape is how the lines of a proof are written, where a number is any row of digits.
var shape = regexp.MustCompile(strings.ReplaceAll(
	`^(prime( #){2,}|factor #( #(\^#)?)*|(root|order)( #){3}|none( #){2}|squares( #){5})$`, "#", `(0|-?[1-9][0-9]*)`))

var one = big.NewInt(1)

// oracle is what the lines of a proof have shown and told, by what is written there.
type oracle struct {
	shown map[string]bool
	told  map[string][]*big.Int
}

// wrong tells of a text what Check is to tell.
func wrong(text string) api.Fault {
	if len(text) > 20000 {
		return faultOf(api.ErrMany, 0)
	}
	if text != "" && text[len(text)-1] != '\n' {
		return faultOf(api.ErrText, strings.Count(text, "\n"))
	}
	o := oracle{shown: map[string]bool{"2": true}, told: map[string][]*big.Int{}}
	for at, line := range linesOf(text) {
		if code := o.code(line); code != api.OK {
			return faultOf(code, at)
		}
	}
	return none
}

func isNumber(word string) (*big.Int, bool) {
	n, ok := new(big.Int).SetString(word, 10)
	return n, ok && new(big.Int).Abs(n).Cmp(large(top)) <= 0
}

func (o *oracle) code(line string) int {
	if !shape.MatchString(line) {
		return api.ErrText
	}
	var list, times []*big.Int
	words := strings.Split(line, " ")
	for _, word := range words[1:] {
		first, behind, is := strings.Cut(word, "^")
		if !is {
			behind = "1"
		}
		n, ok := isNumber(first)
		k, also := isNumber(behind)
		if !ok || !also || is && k.Cmp(one) <= 0 {
			return api.ErrText
		}
		list, times = append(list, n), append(times, k)
	}
	switch words[0] {
	case "prime":
		return o.prime(list[0], list[1], list[2:])
	case "factor":
		return o.factor(list[0], list[1:], times[1:])
	case "root":
		return root(list[0], list[1], list[2])
	case "none":
		return o.none(list[0], list[1])
	case "squares":
		return squares(list[0], list[1:])
	}
	return o.order(list[0], list[1], list[2])
}

func power(a, k, m *big.Int) *big.Int {
	return new(big.Int).Exp(new(big.Int).Mod(a, m), k, m)
}

// divided divides n by q, if that leaves nothing.
func divided(n, q *big.Int) (*big.Int, bool) {
	quotient, rest := new(big.Int).QuoRem(n, q, new(big.Int))
	if rest.Sign() != 0 {
		return n, false
	}
	return quotient, true
}

func isOrder(a, m, k *big.Int, primes []*big.Int) bool {
	rest := new(big.Int).Mod(one, m)
	if power(a, k, m).Cmp(rest) != 0 {
		return false
	}
	for _, q := range primes {
		if power(a, new(big.Int).Quo(k, q), m).Cmp(rest) == 0 {
			return false
		}
	}
	return true
}

func (o *oracle) prime(n, g *big.Int, primes []*big.Int) int {
	if n.Cmp(large(3)) < 0 || g.Cmp(large(2)) < 0 || g.Cmp(n) >= 0 {
		return api.ErrFalse
	}
	whole := new(big.Int).Sub(n, one)
	left, ahead := whole, one
	for _, q := range primes {
		if q.Cmp(ahead) <= 0 {
			return api.ErrFalse
		}
		smaller, ok := divided(left, q)
		if !ok {
			return api.ErrFalse
		}
		if !o.shown[q.String()] {
			return api.ErrNone
		}
		for ok {
			left = smaller
			smaller, ok = divided(left, q)
		}
		ahead = q
	}
	if left.Cmp(one) != 0 || !isOrder(g, n, whole, primes) {
		return api.ErrFalse
	}
	o.shown[n.String()] = true
	return api.OK
}

func (o *oracle) factor(n *big.Int, primes, times []*big.Int) int {
	if n.Sign() <= 0 {
		return api.ErrFalse
	}
	left, ahead := n, one
	for i, q := range primes {
		if q.Cmp(ahead) <= 0 {
			return api.ErrFalse
		}
		if !o.shown[q.String()] {
			return api.ErrNone
		}
		for k := new(big.Int); k.Cmp(times[i]) < 0; k.Add(k, one) {
			smaller, ok := divided(left, q)
			if !ok {
				return api.ErrFalse
			}
			left = smaller
		}
		ahead = q
	}
	if left.Cmp(one) != 0 {
		return api.ErrFalse
	}
	o.told[n.String()] = primes
	return api.OK
}

func root(a, n, x *big.Int) int {
	if n.Sign() <= 0 || x.Sign() < 0 || x.Cmp(n) >= 0 {
		return api.ErrFalse
	}
	if _, ok := divided(new(big.Int).Sub(new(big.Int).Mul(x, x), a), n); !ok {
		return api.ErrFalse
	}
	return api.OK
}

func (o *oracle) none(a, p *big.Int) int {
	if !o.shown[p.String()] {
		return api.ErrNone
	}
	less := new(big.Int).Sub(p, one)
	if p.Cmp(large(2)) <= 0 || power(a, new(big.Int).Rsh(less, 1), p).Cmp(less) != 0 {
		return api.ErrFalse
	}
	return api.OK
}

func squares(n *big.Int, list []*big.Int) int {
	sum, ahead := new(big.Int), large(1000000000)
	for _, x := range list {
		if x.Cmp(ahead) > 0 || x.Sign() < 0 {
			return api.ErrFalse
		}
		sum.Add(sum, new(big.Int).Mul(x, x))
		ahead = x
	}
	if sum.Cmp(n) != 0 {
		return api.ErrFalse
	}
	return api.OK
}

func (o *oracle) order(a, m, k *big.Int) int {
	if m.Sign() <= 0 || k.Sign() <= 0 {
		return api.ErrFalse
	}
	primes, told := o.told[k.String()]
	if !told {
		return api.ErrNone
	}
	if !isOrder(a, m, k, primes) {
		return api.ErrFalse
	}
	return api.OK
}
