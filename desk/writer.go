package desk

import (
	"strconv"
	"strings"

	"arithmetica/api"
	"arithmetica/cert"
	"arithmetica/hang"
	"arithmetica/prime"
	"arithmetica/residue"
	"arithmetica/square"
)

// writer is the lines of a proof that are written, and the primes that they show.
type writer struct {
	text  strings.Builder
	shown map[int]struct{}
}

func newWriter() *writer {
	return &writer{shown: map[int]struct{}{2: {}}}
}

// proofs answers the questions of which there are proofs. What answers them writes all lines of the proof but the last one, and answers that; it stops where there is no proof.
func (w *writer) proofs() table {
	return table{
		"prime":   {1, w.prime},
		"factor":  {1, w.factor},
		"root":    {2, w.root},
		"none":    {2, w.none},
		"squares": {1, w.squares},
		"order":   {2, w.order},
	}
}

func (w *writer) write(line string) {
	w.text.WriteString(line + "\n")
}

// lineOf answers a line of a name and numbers.
func lineOf(name string, numbers ...int) string {
	return joined(append([]string{name}, inDecimal(numbers)...))
}

// show writes the lines that show the certificate's number, where they do not stand there yet.
func (w *writer) show(c api.Cert) {
	if _, shown := w.shown[c.N]; shown {
		return
	}
	w.write(w.showing(c))
	w.shown[c.N] = struct{}{}
}

// showing answers the line that shows the certificate's number, which is not 2, and writes those that it leans on.
func (w *writer) showing(c api.Cert) string {
	numbers := []int{c.N, c.Root}
	for _, part := range c.Parts {
		w.show(part)
		numbers = append(numbers, part.N)
	}
	return lineOf("prime", numbers...)
}

func (w *writer) prime(n []int) string {
	c, f := cert.Make(n[0])
	// No line shows 2.
	need(f.Code == api.OK && c.N > 2, api.ErrFalse)
	return w.showing(c)
}

func (w *writer) factor(n []int) string {
	powers, f := prime.Factor(n[0])
	need(f.Code == api.OK, api.ErrFalse)
	for _, p := range powers {
		c, _ := cert.Make(p.Prime)
		w.show(c)
	}
	return joined(append([]string{"factor", strconv.Itoa(n[0])}, asPowers(powers)...))
}

func (w *writer) root(n []int) string {
	need(n[1] > 0, api.ErrFalse)
	x, ok := rootBy(n[0], n[1])
	need(ok, api.ErrFalse)
	return lineOf("root", n[0], n[1], x)
}

func (w *writer) none(n []int) string {
	c, f := cert.Make(n[1])
	need(f.Code == api.OK, api.ErrFalse)
	// By 2 there is no symbol, and no line either.
	symbol, _ := residue.Jacobi(n[0], n[1])
	need(symbol == -1, api.ErrFalse)
	w.show(c)
	return lineOf("none", n...)
}

func (w *writer) squares(n []int) string {
	list, f := square.Four(n[0])
	need(f.Code == api.OK, api.ErrFalse)
	return lineOf("squares", append(n, list...)...)
}

func (w *writer) order(n []int) string {
	k, f := hang.Order(n[0], n[1])
	need(f.Code == api.OK, api.ErrFalse)
	w.write(w.factor([]int{k}))
	return lineOf("order", append(n, k)...)
}
