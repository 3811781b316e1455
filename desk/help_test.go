package desk_test

import (
	"math/big"
	"slices"
	"strconv"
	"strings"
	"testing"

	"arithmetica/api"
	"arithmetica/desk"
	"arithmetica/hang"
	"arithmetica/prime"
	"arithmetica/residue"
	"arithmetica/sample"
)

const top = api.MaxNum

var none api.Fault

func faultOf(code, at int) api.Fault { return api.Fault{Code: code, At: at} }

// linesOf are the lines of a text that ends with a line feed, or is empty.
func linesOf(text string) []string {
	list := strings.Split(text, "\n")
	return list[:len(list)-1]
}

// textOf is a text of these lines.
func textOf(lines ...string) string {
	if len(lines) == 0 {
		return ""
	}
	return strings.Join(lines, "\n") + "\n"
}

// lineOf is a line of a name and numbers.
func lineOf(name string, numbers ...int) string {
	for _, n := range numbers {
		name += " " + strconv.Itoa(n)
	}
	return name
}

// numbersOf are the numbers of a line of which Check says nothing, and that has no `^`.
func numbersOf(t *testing.T, line string) []int {
	t.Helper()
	var list []int
	for _, word := range strings.Split(line, " ")[1:] {
		n, err := strconv.Atoi(word)
		if err != nil {
			t.Errorf("%q has the word %q", line, word)
		}
		list = append(list, n)
	}
	return list
}

// numberEdges are the edges that are numbers.
func numberEdges() []int {
	return slices.DeleteFunc(sample.Edges(), func(n int) bool { return n < -top || n > top })
}

// held looks at a text by Check and by the oracle, and answers what is wrong with it; where nothing is, each line must be so.
func held(t *testing.T, text string) api.Fault {
	t.Helper()
	got, want := desk.Check(text), wrong(text)
	if got != want {
		t.Fatalf("Check of %q: %v, want %v", text, got, want)
	}
	if got == none {
		for _, line := range linesOf(text) {
			checkSo(t, line)
		}
	}
	return got
}

// checkSo fails, unless the layers above say what the line says.
func checkSo(t *testing.T, line string) {
	t.Helper()
	name, behind, _ := strings.Cut(line, " ")
	if name == "factor" {
		checkFactorSo(t, behind)
		return
	}
	n := numbersOf(t, line)
	so := false
	switch name {
	case "prime":
		so, _ = prime.Is(n[0])
	case "root":
		so = leaves(n[2], 2, n[1]).Cmp(leaves(n[0], 1, n[1])) == 0
	case "none":
		list, f := residue.Roots(n[0], n[1])
		so = len(list) == 0 && f == none
	case "squares":
		so = n[0] == n[1]*n[1]+n[2]*n[2]+n[3]*n[3]+n[4]*n[4]
	case "order":
		k, f := hang.Order(n[0], n[1])
		so = k == n[2] && f == none
	}
	if !so {
		t.Errorf("%q is not so", line)
	}
}

// checkFactorSo does the same with what stands behind the name of `factor`.
func checkFactorSo(t *testing.T, words string) {
	t.Helper()
	list := strings.Split(words, " ")
	n, _ := strconv.Atoi(list[0])
	powers, f := prime.Factor(n)
	if f != none || !slices.Equal(list[1:], powersIn(powers)) {
		t.Errorf("factor %s is not so", words)
	}
}

// powersIn writes primes and how often they are there.
func powersIn(powers []api.Power) []string {
	var list []string
	for _, p := range powers {
		word := strconv.Itoa(p.Prime)
		if p.Times != 1 {
			word += "^" + strconv.Itoa(p.Times)
		}
		list = append(list, word)
	}
	return list
}

func large(n int) *big.Int { return big.NewInt(int64(n)) }

// leaves is what a to the power of k leaves, left by m.
func leaves(a, k, m int) *big.Int { return new(big.Int).Exp(large(a), large(k), large(m)) }

// checkOutcomes fails, unless each of these codes is met.
func checkOutcomes(t *testing.T, outcomes map[int]int, want ...int) {
	t.Helper()
	for _, code := range want {
		if outcomes[code] == 0 {
			t.Errorf("no case has the code %d", code)
		}
	}
	if len(outcomes) != len(want) {
		t.Errorf("there are other outcomes: %v", outcomes)
	}
}
