package desk

import (
	"arithmetica/api"
	"arithmetica/modulo"
)

const (
	mostRoot = 1000000000  // the greatest number whose square a line may speak of
	anyMany  = api.MaxText // no line has more words
)

// proof is what the lines that were looked at have shown and told, and the kinds of lines that there are.
type proof struct {
	kinds map[string]kind
	shown map[int]struct{} // the primes that are shown
	told  map[int][]int    // the primes of each number of which they are told
}

// kind is how many words a line has behind its name, and what looks at them.
type kind struct {
	least, most int
	look        func(words []word)
}

func newProof() *proof {
	p := &proof{shown: map[int]struct{}{2: {}}, told: map[int][]int{}}
	p.kinds = map[string]kind{
		"prime":   {2, anyMany, p.prime},
		"factor":  {1, anyMany, p.factor},
		"root":    {3, 3, p.root},
		"none":    {2, 2, p.none},
		"squares": {5, 5, p.squares},
		"order":   {3, 3, p.order},
	}
	return p
}

// look looks at the next line, and stops with what is wrong with it.
func (p *proof) look(line string) {
	name, words := read(line)
	k, known := p.kinds[name]
	need(known && k.least <= len(words) && len(words) <= k.most, api.ErrText)
	k.look(words)
}

func (p *proof) needShown(n int) {
	_, shown := p.shown[n]
	need(shown, api.ErrNone)
}

// prime looks at N, G and the Qs. Where it does not stop, G's order by N is N - 1: it divides that, and none of what that is over its primes. Only by a prime there is such an order (Lucas).
func (p *proof) prime(words []word) {
	list := numbers(words)
	n, g, primes := list[0], list[1], list[2:]
	need(n > 2 && 2 <= g && g < n, api.ErrFalse)
	left, ahead := n-1, 1
	for _, q := range primes {
		need(q > ahead && left%q == 0, api.ErrFalse)
		p.needShown(q)
		for left%q == 0 {
			left /= q
		}
		ahead = q
	}
	need(left == 1, api.ErrFalse)
	needOrder(g, n, n-1, primes)
	p.shown[n] = struct{}{}
}

// needOrder stops, unless k is the order of a by m; primes are those of k.
func needOrder(a, m, k int, primes []int) {
	one := modulo.Left(1, m)
	need(modulo.Power(a, k, m) == one, api.ErrFalse)
	for _, q := range primes {
		need(modulo.Power(a, k/q, m) != one, api.ErrFalse)
	}
}

// factor looks at N and the Ps.
func (p *proof) factor(words []word) {
	n, list := numbers(words[:1])[0], powers(words[1:])
	need(n > 0, api.ErrFalse)
	left, ahead := n, 1
	var primes []int
	for _, power := range list {
		need(power.Prime > ahead, api.ErrFalse)
		p.needShown(power.Prime)
		for range power.Times {
			need(left%power.Prime == 0, api.ErrFalse)
			left /= power.Prime
		}
		ahead = power.Prime
		primes = append(primes, power.Prime)
	}
	need(left == 1, api.ErrFalse)
	p.told[n] = primes
}

// root looks at A, N and X.
func (p *proof) root(words []word) {
	list := numbers(words)
	a, n, x := list[0], list[1], list[2]
	need(n > 0 && 0 <= x && x < n, api.ErrFalse)
	need(modulo.Product(x, x, n) == modulo.Left(a, n), api.ErrFalse)
}

// none looks at A and P. Where it does not stop, no square leaves what A leaves, left by P (Euler).
func (p *proof) none(words []word) {
	list := numbers(words)
	a, by := list[0], list[1]
	p.needShown(by)
	need(by > 2 && modulo.Power(a, (by-1)/2, by) == by-1, api.ErrFalse)
}

// squares looks at N, A, B, C and D. An int holds the sum of four squares of numbers up to mostRoot.
func (p *proof) squares(words []word) {
	list := numbers(words)
	sum, most := 0, mostRoot
	for _, x := range list[1:] {
		need(0 <= x && x <= most, api.ErrFalse)
		sum += x * x
		most = x
	}
	need(sum == list[0], api.ErrFalse)
}

// order looks at A, M and K.
func (p *proof) order(words []word) {
	list := numbers(words)
	a, m, k := list[0], list[1], list[2]
	need(m > 0 && k > 0, api.ErrFalse)
	primes, told := p.told[k]
	need(told, api.ErrNone)
	needOrder(a, m, k, primes)
}
