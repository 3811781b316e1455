package desk_test

import (
	"fmt"
	"math"
	"slices"
	"strings"
	"testing"

	"arithmetica/api"
	"arithmetica/desk"
	"arithmetica/hang"
	"arithmetica/prime"
	"arithmetica/residue"
	"arithmetica/sample"
)

// proven asks for a proof, and looks at it: there is one just where it is so.
func proven(t *testing.T, question string, so bool) []string {
	t.Helper()
	text, f := desk.Prove(question)
	if !so {
		if text != "" || f != faultOf(api.ErrFalse, 0) {
			t.Fatalf("Prove of %q: %q, %v", question, text, f)
		}
		return nil
	}
	lines := linesOf(text)
	if f != none || len(lines) == 0 || !strings.HasPrefix(lines[len(lines)-1]+" ", question+" ") {
		t.Fatalf("Prove of %q: %q, %v", question, text, f)
	}
	if f := held(t, text); f != none {
		t.Fatalf("Check of the proof of %q: %v, %q", question, f, text)
	}
	return lines
}

func isPrime(n int) bool {
	is, f := prime.Is(n)
	return is && f == none
}

// hasRoot tries all numbers.
func hasRoot(a, n int) bool {
	for x := range max(n, 0) {
		if (x*x-a)%n == 0 {
			return true
		}
	}
	return false
}

func hasOrder(a, m int) bool {
	_, f := hang.Order(a, m)
	return f == none
}

func TestProofsOfChosenQuestions(t *testing.T) {
	for _, question := range []string{
		"prime 3", "prime 5", "prime 7", "prime 999999999999999989", "prime 576460752303423619", "factor 1", "factor 2", "factor 561", "factor 1000000000000000000", "factor 999999999999999989", "factor 576460752303423488", "factor 614889782588491410",
		"root 2 7", "root 0 1", "root -1 5", "root 0 1000000000000000000", "root 1 614889782588491410", "root 1000000000000000000 999999999999999999", "none 3 7", "none -1 3", "none 2 3", "none 2 999999999999999989",
		"squares 0", "squares 7", "squares 999999999999999999", "squares 1000000000000000000", "order 10 561", "order 2 7", "order 0 1", "order 1 1", "order 1 2", "order -1 7", "order 2 999999999999999989", "order 3 1000000000000000000",
	} {
		proven(t, question, true)
	}
	for _, question := range []string{
		"prime 2", "prime 1", "prime 0", "prime -1", "prime -3", "prime 561", "prime 4", "prime 999999999999999999", "prime 1000000000000000000", "prime -1000000000000000000", "factor 0", "factor -1", "factor -1000000000000000000",
		"root 3 7", "root 2 0", "root 0 0", "root 4 -15", "root 2 4", "root 3 1000000000000000000", "none 2 7", "none 0 7", "none 7 7", "none 1 2", "none 3 2", "none 2 9", "none 3 1", "none 3 0", "none 3 -7", "none 2 15",
		"squares -1", "squares -1000000000000000000", "order 2 4", "order 0 2", "order 2 0", "order 2 -7", "order 0 0", "order 10 1000000000000000000",
	} {
		proven(t, question, false)
	}
}

func TestProofsOfAllSmallNumbers(t *testing.T) {
	for n := -40; n <= 4000; n++ {
		proven(t, lineOf("prime", n), n > 2 && isPrime(n))
		proven(t, lineOf("factor", n), n > 0)
		proven(t, lineOf("squares", n), n >= 0)
	}
}

func TestProofsOfTwoSmallNumbers(t *testing.T) {
	for n := -3; n <= 130; n++ {
		for a := -20; a <= 131; a++ {
			proven(t, lineOf("root", a, n), hasRoot(a, n))
			proven(t, lineOf("none", a, n), n > 2 && isPrime(n) && !hasRoot(a, n))
			proven(t, lineOf("order", a, n), hasOrder(a, n))
		}
	}
}

// TestRootsByPowers: by powers of primes a root may be a multiple of the prime, and by their products each has one or none has.
func TestRootsByPowers(t *testing.T) {
	for _, n := range []int{256, 512, 243, 625, 343, 121, 144, 225, 288, 400, 441, 675, 720, 900} {
		for a := range n {
			proven(t, lineOf("root", a, n), hasRoot(a, n))
		}
	}
	stream := sample.NewStream()
	for _, p := range []int{2, 3, 5, 7, 101, 1000003, 999999937} {
		power := 1
		for power <= top/p {
			power *= p
			for range 12 {
				square := leaves(stream.Below(power), 2, power)
				proven(t, lineOf("root", int(square.Int64()), power), true)
				checkOddTimes(t, p, power, stream.Below(power))
			}
		}
	}
}

// checkOddTimes asks for a root of what has the prime an odd number of times, fewer than the power has: there is none.
func checkOddTimes(t *testing.T, p, power, n int) {
	t.Helper()
	if n%p == 0 {
		n++
	}
	for odd := p; power%odd == 0 && odd < power; odd *= p * p {
		proven(t, lineOf("root", odd*(n%(power/odd)), power), false)
	}
}

func TestProofsOfGreatNumbers(t *testing.T) {
	outcomes := map[string]int{}
	all := slices.Concat(sample.Numbers(400), sample.Positive(100))
	for i, n := range all {
		a := all[(7*i+3)%len(all)]
		is := n > 2 && isPrime(n)
		proven(t, lineOf("prime", n), is)
		proven(t, lineOf("factor", n), n > 0)
		proven(t, lineOf("squares", n), n >= 0)
		ordered := hasOrder(a, n)
		proven(t, lineOf("order", a, n), ordered)
		if next, f := prime.Next(n); f == none {
			proven(t, lineOf("prime", next), next > 2)
			proven(t, lineOf("order", a, next), a%next != 0)
			symbol, _ := residue.Jacobi(a, next)
			proven(t, lineOf("none", a, next), next > 2 && symbol == -1)
			proven(t, lineOf("root", a, next), next == 2 || symbol != -1)
			outcomes[fmt.Sprint("symbol", symbol)]++
		}
		outcomes[fmt.Sprint("prime", is)]++
		outcomes[fmt.Sprint("order", ordered)]++
	}
	if len(outcomes) != 7 {
		t.Errorf("not each case comes: %v", outcomes)
	}
}

// TestRootsByGreatNumbers: where residue.Roots answers all roots, there is a proof just where there is one; of a square there is one always.
func TestRootsByGreatNumbers(t *testing.T) {
	outcomes := map[bool]int{}
	stream := sample.NewStream()
	for range 400 {
		n := 1 + stream.Below(top)>>stream.Below(60)
		a := stream.UpTo(top)
		if list, f := residue.Roots(a, n); f == none {
			proven(t, lineOf("root", a, n), len(list) > 0)
			outcomes[len(list) > 0]++
		}
		square := leaves(a, 2, n).Int64()
		proven(t, lineOf("root", int(square), n), true)
		proven(t, lineOf("root", int(square)-n, n), true)
	}
	if len(outcomes) != 2 {
		t.Errorf("not each case comes: %v", outcomes)
	}
}

// TestProofsLeanOnLinesAhead: the lines ahead of the last one are of the kinds that it leans on, and none comes twice.
func TestProofsLeanOnLinesAhead(t *testing.T) {
	for _, x := range []struct {
		question string
		least    int
	}{
		{"prime 3", 1}, {"prime 7", 2}, {"prime 999999999999999989", 3}, {"factor 1", 1}, {"factor 8", 1}, {"factor 63", 3}, {"none 3 7", 3}, {"order 2 7", 3}, {"factor 614889782588491410", 15}, {"root 2 7", 1}, {"squares 7", 1},
	} {
		lines := proven(t, x.question, true)
		if single := slices.Compact(slices.Sorted(slices.Values(lines))); len(lines) < x.least || len(single) != len(lines) {
			t.Errorf("Prove of %q: %q", x.question, lines)
		}
	}
}

func TestQuestionsThatAreNotWrittenSo(t *testing.T) {
	for _, line := range []string{"prime 7", "factor 60", "root 2 7", "none 3 7", "squares 7", "order 2 7"} {
		proven(t, line, true)
		name, behind, _ := strings.Cut(line, " ")
		list := []string{
			"", " ", "\n", name, name + " ", " " + line, line + " ", line + "\n", "\n" + line, line + "\r\n", line + "\x00", line + "\xff", strings.Replace(line, " ", "  ", 1), strings.ReplaceAll(line, " ", "\t"), strings.ToUpper(line), name + behind, behind, behind + " " + name,
			line + " 1", line + " 7 7", line + " x", line + "^2", line + " 2^2", line + ".", line + "e0", name + " 0" + behind, name + " +" + behind, name + " -0", name + " 0 -0", name + " x", name + " x x", name + " 7 x", name + " x 7", name + " 1000000000000000001", name + " 2 1000000000000000001", name + " -1000000000000000001",
			name + " 9223372036854775815", name + " 18446744073709551623", name + " 2 18446744073709551623", name + " ٧", name + " 7 7 7", name + "s " + behind, "gcd " + behind, "pell 7", name + " 7^2", name + " 2 7^2", name + " 2^2 7", line + "\n" + line, line + " " + line,
		}
		for _, question := range list {
			checkQuestion(t, question, api.ErrText)
		}
	}
	for _, name := range []string{"prime", "factor", "squares"} {
		checkQuestion(t, name+" 7 7", api.ErrText)
	}
	for _, name := range []string{"root", "none", "order"} {
		checkQuestion(t, name+" 7", api.ErrText)
	}
}

func checkQuestion(t *testing.T, question string, code int) {
	t.Helper()
	if text, f := desk.Prove(question); text != "" || f != faultOf(code, 0) {
		t.Errorf("Prove of %q: %q, %v", question, text, f)
	}
}

// TestLengthsOfQuestions: a question that is right is shorter, but what is too long is told ahead of what is wrong with its words.
func TestLengthsOfQuestions(t *testing.T) {
	for bytes, code := range map[int]int{0: api.ErrText, 199: api.ErrText, 200: api.ErrText, 201: api.ErrMany, 202: api.ErrMany, 1000: api.ErrMany, api.MaxText: api.ErrMany, api.MaxText + 1: api.ErrMany, 10 * api.MaxText: api.ErrMany} {
		for _, part := range []string{"x", " ", "7", "0", "-", "\n", "\x00", "\xff", "prime 7 ", "é"} {
			padding := strings.Repeat(part, bytes/len(part)+1)
			for _, ahead := range []string{"", "prime 7", "prime 7 ", "prime ", "prime 0", "factor 60\n", "root 2 7 ", "order 2 7^", " "} {
				question := (ahead + padding)[:bytes]
				checkQuestion(t, question, code)
				checkQuestion(t, (padding + ahead)[len(padding)+len(ahead)-bytes:], code)
			}
		}
	}
	// Signs are fewer than bytes.
	checkQuestion(t, strings.Repeat("é", 100), api.ErrText)
	checkQuestion(t, strings.Repeat("é", 100)+"x", api.ErrMany)
	checkQuestion(t, "prime "+strings.Repeat("٧", 100), api.ErrMany)
}

// TestQuestionsAtTheEdges: numbers at their bounds and beyond.
func TestQuestionsAtTheEdges(t *testing.T) {
	for _, n := range append(sample.Edges(), math.MaxInt32, math.MinInt32) {
		if n < -top || n > top {
			for _, line := range []string{lineOf("prime", n), lineOf("factor", n), lineOf("squares", n), lineOf("root", 1, n), lineOf("none", 1, n), lineOf("order", 1, n), lineOf("root", n, 7), lineOf("none", n, 7), lineOf("order", n, 7)} {
				checkQuestion(t, line, api.ErrText)
			}
			continue
		}
		proven(t, lineOf("prime", n), n > 2 && isPrime(n))
		proven(t, lineOf("factor", n), n > 0)
		proven(t, lineOf("squares", n), n >= 0)
		for _, m := range numberEdges() {
			proven(t, lineOf("order", n, m), hasOrder(n, m))
			proven(t, lineOf("root", n, m), m > 0 && isSquareBy(n, m))
			symbol, f := residue.Jacobi(n, m)
			proven(t, lineOf("none", n, m), isPrime(m) && m > 2 && f == none && symbol == -1)
		}
	}
}

// isSquareBy asks the layers above by each power of a prime in n: of a number that has the prime an even number of times what is left must have a root.
func isSquareBy(a, n int) bool {
	powers, _ := prime.Factor(n)
	for _, p := range powers {
		rest, left := a, p.Times
		for ; left > 0 && rest%p.Prime == 0; left-- {
			rest /= p.Prime
		}
		if left == 0 {
			continue
		}
		power := 1
		for range left {
			power *= p.Prime
		}
		list, _ := residue.Roots(rest, power)
		if (p.Times-left)%2 != 0 || len(list) == 0 {
			return false
		}
	}
	return true
}
