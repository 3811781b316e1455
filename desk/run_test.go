package desk_test

import (
	"fmt"
	"slices"
	"strings"
	"testing"

	"arithmetica/api"
	"arithmetica/cont"
	"arithmetica/curve"
	"arithmetica/desk"
	"arithmetica/equation"
	"arithmetica/hang"
	"arithmetica/partition"
	"arithmetica/prime"
	"arithmetica/quad"
	"arithmetica/residue"
	"arithmetica/sample"
	"arithmetica/whole"
)

// run holds Run of lines against their answers, in texts of at most MaxText bytes.
func run(t *testing.T, lines, answers []string) {
	t.Helper()
	for len(lines) > 0 {
		many, bytes := 0, 0
		for many < len(lines) && bytes+len(lines[many])+1 <= api.MaxText {
			bytes += len(lines[many]) + 1
			many++
		}
		text, f := desk.Run(textOf(lines[:many]...))
		if f != none || strings.Count(text, "\n") != many || !strings.HasSuffix(text, "\n") {
			t.Fatalf("Run of %d lines from %q on: %v, %d answers", many, lines[0], f, strings.Count(text, "\n"))
		}
		for i, answer := range linesOf(text) {
			if answer != answers[i] {
				t.Errorf("Run of %q: %q, want %q", lines[i], answer, answers[i])
			}
		}
		lines, answers = lines[many:], answers[many:]
	}
}

// told writes what a call answers.
func told(x any, f api.Fault) string {
	if f != none {
		return fmt.Sprintf("fault %d %d", f.Code, f.At)
	}
	return strings.Trim(fmt.Sprint(x), "[]")
}

// count is told's, of how many there are.
func count[T any](list []T, f api.Fault) string { return told(len(list), f) }

// instead writes other words in the place of some.
func instead(text string, pairs ...string) string {
	for i := 0; i < len(pairs); i += 2 {
		if text == pairs[i] {
			return pairs[i+1]
		}
	}
	return text
}

func factorTold(n int) string {
	powers, f := prime.Factor(n)
	return instead(told(powersIn(powers), f), "", "1")
}

func primeTold(n int) string { return instead(told(prime.Is(n)), "true", "yes", "false", "no") }

func rootsTold(a, n int) string { return instead(told(residue.Roots(a, n)), "", "none") }

func pellTold(d int) string {
	x, y, f := cont.Pell(d)
	return told(x+" "+y, f)
}

func classesTold(d int) string { return count(quad.Classes(d)) }

func markovTold(n int) string { return count(equation.Markov(n)) }

// ofOne are the lines with one number, and what they are told by.
func ofOne() map[string]func(int) string {
	return map[string]func(int) string{
		"prime": primeTold, "factor": factorTold, "pell": pellTold, "classes": classesTold, "markov": markovTold,
		"next":       func(n int) string { return told(prime.Next(n)) },
		"phi":        func(n int) string { return told(hang.Phi(n)) },
		"partitions": func(n int) string { return told(partition.Count(n)) },
	}
}

func ofTwo() map[string]func(a, b int) string {
	return map[string]func(a, b int) string{
		"gcd":     func(a, b int) string { return told(whole.Gcd(a, b)) },
		"inverse": func(a, b int) string { return told(whole.Inverse(a, b)) },
		"order":   func(a, b int) string { return told(hang.Order(a, b)) },
		"jacobi":  func(a, b int) string { return told(residue.Jacobi(a, b)) },
		"expand":  func(a, b int) string { return told(cont.Expand(a, b)) },
		"roots":   rootsTold,
	}
}

func ofThree() map[string]func(a, b, c int) string {
	return map[string]func(a, b, c int) string{
		"power":  func(a, b, c int) string { return told(whole.Power(a, b, c)) },
		"points": func(a, b, c int) string { return count(curve.Points(a, b, c)) },
	}
}

// arities are how many numbers stand behind each name.
func arities() map[string]int {
	list := map[string]int{}
	for name := range ofOne() {
		list[name] = 1
	}
	for name := range ofTwo() {
		list[name] = 2
	}
	for name := range ofThree() {
		list[name] = 3
	}
	return list
}

// answer is what a line is to be answered by.
func answer(name string, n []int) string {
	switch len(n) {
	case 1:
		return ofOne()[name](n[0])
	case 2:
		return ofTwo()[name](n[0], n[1])
	}
	return ofThree()[name](n[0], n[1], n[2])
}

// checkCalls holds lines of these rows of numbers against the calls.
func checkCalls(t *testing.T, rows [][]int) {
	t.Helper()
	for name, many := range arities() {
		var lines, answers []string
		for _, n := range rows {
			n = n[:many]
			lines, answers = append(lines, lineOf(name, n...)), append(answers, answer(name, n))
		}
		run(t, lines, answers)
	}
}

func TestRunOfChosenLines(t *testing.T) {
	for _, x := range [][2]string{
		{"gcd 12 -18", "6"}, {"gcd 0 0", "0"}, {"inverse -3 10", "3"}, {"inverse 4 10", "fault 5 0"}, {"inverse 3 0", "fault 3 1"}, {"power 2 64 1000000000000000000", "446744073709551616"}, {"power 2 -1 7", "fault 3 1"}, {"power 2 3 0", "fault 3 2"},
		{"prime 7", "yes"}, {"prime 561", "no"}, {"prime -7", "no"}, {"prime 0", "no"}, {"prime 2", "yes"}, {"prime 999999999999999989", "yes"}, {"next 13", "17"}, {"next -5", "2"}, {"next 1000000000000000000", "fault 9 0"},
		{"factor 360", "2^3 3^2 5"}, {"factor 1", "1"}, {"factor 7", "7"}, {"factor 49", "7^2"}, {"factor 0", "fault 3 0"}, {"factor 1000000000000000000", "2^18 5^18"}, {"factor 2", "2"}, {"factor -6", "fault 3 0"},
		{"phi 100", "40"}, {"phi 0", "fault 3 0"}, {"order 2 7", "3"}, {"order 2 4", "fault 5 0"}, {"order 2 0", "fault 3 1"}, {"jacobi 2 15", "1"}, {"jacobi 3 9", "0"}, {"jacobi 2 3", "-1"}, {"jacobi 2 4", "fault 3 1"},
		{"roots 2 5", "none"}, {"roots 4 15", "2 7 8 13"}, {"roots 0 1", "0"}, {"roots 2 7", "3 4"}, {"roots 2 0", "fault 3 1"}, {"roots 0 1000000000000000000", "fault 9 0"},
		{"classes -23", "3"}, {"classes -4", "1"}, {"classes -5", "fault 7 0"}, {"classes 5", "fault 3 0"}, {"expand -7 3", "-3 1 2"}, {"expand 0 5", "0"}, {"expand 6 -4", "-2 2"}, {"expand 1 0", "fault 4 1"},
		{"pell 7", "8 3"}, {"pell 61", "1766319049 226153980"}, {"pell 4", "fault 7 0"}, {"pell 0", "fault 3 0"}, {"points 5 1 1", "9"}, {"points 5 0 0", "fault 6 0"}, {"points 4 1 1", "fault 3 0"}, {"markov 30", "5"}, {"markov 1", "1"}, {"markov 0", "0"}, {"partitions 100", "190569292"}, {"partitions 0", "1"}, {"partitions -1", "fault 3 0"}, {"partitions 2001", "fault 3 0"},
	} {
		if text, f := desk.Run(x[0] + "\n"); text != x[1]+"\n" || f != none {
			t.Errorf("Run of %q: %q, %v, want %q", x[0], text, f, x[1])
		}
	}
}

func TestRunOfAllSmallNumbers(t *testing.T) {
	var ones, others [][]int
	for n := -30; n <= 300; n++ {
		ones = append(ones, []int{n, 4*n + 1, 1})
	}
	for a := -12; a <= 13; a++ {
		for b := -9; b <= 17; b++ {
			for c := -1; c <= 11; c += 3 {
				others = append(others, []int{a, b, c})
			}
		}
	}
	checkCalls(t, ones)
	checkCalls(t, others)
}

func TestRunAtTheEdges(t *testing.T) {
	var rows [][]int
	edges := append(numberEdges(), 5, 7, 1999, 2000, 2001, api.MaxSmall-1, api.MaxSmall, api.MaxSmall+1, -api.MaxSmall, 1-api.MaxSmall, -api.MaxSmall-1, 999999999999999989)
	for i, a := range edges {
		for j, b := range edges {
			rows = append(rows, []int{a, b, edges[(i+3*j)%len(edges)]}, []int{a, b, edges[(5*i+j)%len(edges)]})
		}
	}
	checkCalls(t, rows)
}

func TestRunOfGreatNumbers(t *testing.T) {
	var rows [][]int
	stream := sample.NewStream()
	for range 300 {
		rows = append(rows, []int{stream.UpTo(top), stream.UpTo(top), stream.UpTo(top)})
	}
	checkCalls(t, rows)
}

// TestRunOfPoints: few numbers are the prime of a curve.
func TestRunOfPoints(t *testing.T) {
	var lines, answers []string
	for _, p := range []int{4, 5, 6, 7, 9, 11, 13, 101, 1999, 2003} {
		for a := -1; a <= 7; a++ {
			for b := -1; b <= 7; b++ {
				lines, answers = append(lines, lineOf("points", p, a, b)), append(answers, ofThree()["points"](p, a, b))
			}
		}
	}
	if run(t, lines, answers); !slices.Contains(answers, "9") || !slices.Contains(answers, "fault 3 0") {
		t.Errorf("not each answer comes: %v", answers)
	}
}

// TestRunOfWhatIsNoLine: it is answered by `?`, and the lines beside it are answered.
func TestRunOfWhatIsNoLine(t *testing.T) {
	list := []string{"", " ", "  ", "?", "x", "\x00", "\r", "\xff", "\xff\xfe", "é", "gcd", "GCD 1 2", "fault 3 0", "root 2 7", "none 3 7", "squares 7", "squares 7 2 1 1 1", "prime 3 2 2", "factor 63 3^2 7", "factor 3^2", "order 2 7 3", "root 4 15 7", "root 4 15", "help", "quit", "quad -23", "count 7", "is 7", "12", "1 2", "yes", "none"}
	for name, many := range arities() {
		numbers := strings.TrimPrefix(lineOf("", 7, 5, 3)[:2*many], " ")
		right := name + " " + numbers
		if text, f := desk.Run(right + "\n"); f != none || text == "?\n" {
			t.Errorf("Run of %q: %q, %v", right, text, f)
		}
		list = append(list, name, name+" ", " "+right, right+" ", right+"\r", right+"\x00", right+" 1", right+" x", right+"^2", right+"^", right+".0", right+"x", "\t"+right, name+"  "+numbers, name+"\t"+numbers, name+numbers, numbers+" "+name, strings.ToUpper(name)+" "+numbers, name+"s "+numbers, name[1:]+" "+numbers, name+" "+numbers[2*many-1:]+" 1 1 1", right+"\xff", right+" # 1")
		words := strings.Split(right, " ")
		for at := range many {
			for _, word := range []string{"", "x", "-", "+", "-0", "+0", "00", "+1", "01", "-01", "0x1", "1_0", "1e1", "1.0", "1,0", "7^2", "2^2", "^2", "7^1", "٧", "1\x00", "1\xff", "--1", "1000000000000000001", "-1000000000000000001", "9223372036854775808", "18446744073709551617", strings.Repeat("9", 100), "0" + strings.Repeat("0", 20), "A", "N", "none", "NaN"} {
				list = append(list, spoilt(words, at+1, word))
			}
		}
		if many > 1 {
			list = append(list, strings.Join(words[:many], " "))
		}
	}
	var lines, answers []string
	for _, line := range list {
		lines, answers = append(lines, line, "gcd 12 18"), append(answers, "?", "6")
		if text, f := desk.Run(line + "\n"); text != "?\n" || f != none {
			t.Errorf("Run of %q: %q, %v", line, text, f)
		}
	}
	run(t, lines, answers)
}

// TestRunOfTextsThatMayNotBe: as Check's, they are told as a whole, and no line is answered.
func TestRunOfTextsThatMayNotBe(t *testing.T) {
	check := func(text string, want api.Fault) {
		t.Helper()
		if answer, f := desk.Run(text); answer != "" || f != want {
			t.Errorf("Run of %d bytes: %d bytes, %v, want %v", len(text), len(answer), f, want)
		}
	}
	for _, bytes := range []int{api.MaxText + 1, api.MaxText + 2, 50 * api.MaxText} {
		for _, part := range []string{"\n", "x", "gcd 1 1\n", "é", "\xff", " "} {
			check(strings.Repeat(part, bytes/len(part)+1)[:bytes], faultOf(api.ErrMany, 0))
		}
	}
	for _, ahead := range []string{"", "gcd 1 1\n", "\n", "x\n\n", "gcd 1 1\nphi 0\n", strings.Repeat("\n", api.MaxText-7)} {
		for _, line := range []string{"gcd 1 1", "x", " ", "\x00", "phi 0\r", "\xff"} {
			check(ahead+line, faultOf(api.ErrText, strings.Count(ahead, "\n")))
		}
	}
	for _, bytes := range []int{api.MaxText - 1, api.MaxText} {
		check(strings.Repeat("x", bytes), faultOf(api.ErrText, 0))
		check(strings.Repeat("\n", bytes-1)+"x", faultOf(api.ErrText, bytes-1))
	}
}

func TestRunOfTextsOfAllLengths(t *testing.T) {
	if text, f := desk.Run(""); text != "" || f != none {
		t.Errorf("Run of nothing: %q, %v", text, f)
	}
	for _, many := range []int{1, 2, 7, 1000, api.MaxText} {
		if text, f := desk.Run(strings.Repeat("\n", many)); text != strings.Repeat("?\n", many) || f != none {
			t.Errorf("Run of %d line feeds: %d bytes, %v", many, len(text), f)
		}
	}
	for _, x := range [][2]string{{"pell 7\n", "8 3\n"}, {"roots 0 1\n", "0\n"}, {"partitions 4\n", "5\n"}, {"phi 0000\n", "?\n"}, {"gcd 0 0\n", "0\n"}} {
		many := api.MaxText / len(x[0])
		rest := api.MaxText % len(x[0])
		text, f := desk.Run(strings.Repeat(x[0], many) + strings.Repeat("\n", rest))
		if text != strings.Repeat(x[1], many)+strings.Repeat("?\n", rest) || f != none {
			t.Errorf("Run of %d times %q: %d bytes, %v", many, x[0], len(text), f)
		}
	}
	if text, f := desk.Run("x " + strings.Repeat("9", api.MaxText-3) + "\n"); text != "?\n" || f != none {
		t.Errorf("Run of one line: %q, %v", text, f)
	}
	if text, f := desk.Run("gcd" + strings.Repeat(" 9", (api.MaxText-4)/2) + "\n"); text != "?\n" || f != none {
		t.Errorf("Run of one line: %q, %v", text, f)
	}
}

// TestRunAnswersInOrder: what is asked twice is answered twice, and no line hangs on those ahead.
func TestRunAnswersInOrder(t *testing.T) {
	var lines, answers []string
	for n := range 40 {
		for _, name := range []string{"prime", "factor", "next", "phi", "markov"} {
			lines, answers = append(lines, lineOf(name, n)), append(answers, ofOne()[name](n))
		}
	}
	run(t, lines, answers)
	slices.Reverse(lines)
	slices.Reverse(answers)
	run(t, append(lines, lines...), append(answers, answers...))
}
