package desk_test

import (
	"fmt"
	"slices"
	"strings"
	"testing"

	"arithmetica/api"
	"arithmetica/desk"
	"arithmetica/sample"
)

// known shows the primes up to 13, and tells of small numbers.
func known() string {
	text := "prime 3 2 2\nprime 5 2 2\nprime 7 3 2 3\nprime 11 2 2 5\nprime 13 2 2 3\n"
	return text + "factor 1\nfactor 2 2\nfactor 3 3\nfactor 4 2^2\nfactor 6 2 3\nfactor 8 2^3\nfactor 9 3^2\nfactor 10 2 5\nfactor 12 2^2 3\n"
}

// checkSmall holds Check of all lines of these lists of words, behind what is known, against the oracle; these codes come.
func checkSmall(t *testing.T, name string, lists [][]string, codes ...int) {
	t.Helper()
	outcomes := map[int]int{}
	ahead := known()
	words := make([]string, len(lists))
	var fill func(at int)
	fill = func(at int) {
		if at == len(lists) {
			line := strings.TrimRight(name+" "+strings.Join(words, " "), " ")
			outcomes[held(t, ahead+line+"\n").Code]++
			return
		}
		for _, word := range lists[at] {
			words[at] = word
			fill(at + 1)
		}
	}
	fill(0)
	checkOutcomes(t, outcomes, codes...)
}

// within are the numbers from least to most.
func within(least, most int) []string {
	var list []string
	for n := least; n <= most; n++ {
		list = append(list, fmt.Sprint(n))
	}
	return list
}

// TestAllSmallLines: a word that is empty here is left out at the end.
func TestAllSmallLines(t *testing.T) {
	const right, lacks, wrong = api.OK, api.ErrNone, api.ErrFalse
	checkSmall(t, "prime", [][]string{within(-1, 32), within(-1, 14), {"", "2", "4"}}, right, wrong, lacks)
	checkSmall(t, "prime", [][]string{within(0, 32), within(1, 7), within(-1, 7), within(1, 7)}, right, wrong, lacks)
	checkSmall(t, "prime", [][]string{{"31", "43", "61"}, within(1, 13), within(1, 3), within(1, 5), within(1, 7)}, right, wrong, lacks)
	checkSmall(t, "factor", [][]string{within(-2, 40), append(within(-1, 18), "", "2^2", "2^3", "2^4", "2^5", "3^2", "3^3", "5^2", "6^2", "1^2", "-2^2", "0^2", "17^2")}, right, wrong, lacks)
	checkSmall(t, "factor", [][]string{within(0, 40), {"2", "2^2", "2^3", "3", "3^2", "4", "5", "6", "17"}, {"2", "2^2", "3", "3^2", "5", "7", "9", "13", "19"}}, right, wrong, lacks)
	checkSmall(t, "root", [][]string{within(-20, 20), within(-1, 13), within(-1, 13)}, right, wrong)
	checkSmall(t, "none", [][]string{within(-30, 30), within(-13, 30)}, right, wrong, lacks)
	checkSmall(t, "squares", [][]string{within(-1, 16), within(-1, 4), within(-1, 3), within(-1, 2), within(-1, 2)}, right, wrong)
	checkSmall(t, "order", [][]string{within(-14, 14), within(-1, 14), within(-1, 13)}, right, wrong, lacks)
}

// joint is one proof of several questions.
func joint(t *testing.T, questions ...string) []string {
	t.Helper()
	var list []string
	for _, question := range questions {
		text, f := desk.Prove(question)
		if f != none {
			t.Errorf("Prove of %q: %v", question, f)
		}
		list = append(list, linesOf(text)...)
	}
	return list
}

// proofs are proofs of all kinds of lines, with lines that lean on lines ahead.
func proofs(t *testing.T) [][]string {
	t.Helper()
	return [][]string{
		joint(t, "prime 1000003", "factor 360", "root 2 7", "none 3 7", "squares 31", "order 10 561"),
		joint(t, "order 2 1000003", "none 5 1000003"),
		joint(t, "prime 999999999999999989"),
		joint(t, "factor 897612484786617600", "order 3 1024"),
		joint(t, "factor 999999866000004473", "root 4 999999866000004473", "squares 999999999999999999"),
		linesOf(known()),
		{"factor 2 2", "order 3 8 2", "factor 4 2^2", "order 3 16 4", "factor 1", "order 1 16 1", "root 9 16 3", "root 9 16 5"},
	}
}

// others are words that stand in the place of one.
func others(word string) []string {
	list := []string{"", "x", word + "0", "1" + word, "-" + word, "0" + word, word + "^2", word + "^3", strings.Replace(word, "^2", "", 1), strings.Replace(word, "^2", "^3", 1), strings.Replace(word, "^3", "^2", 1), "prime", "factor", "root", "none", "squares", "order"}
	for _, n := range []int{-top, -1, 0, 1, 2, 3, 4, 5, 7, top} {
		list = append(list, fmt.Sprint(n))
	}
	n := 0
	if _, err := fmt.Sscan(word, &n); err == nil {
		list = append(list, fmt.Sprint(n-1), fmt.Sprint(n+1), fmt.Sprint(2*n), fmt.Sprint(n/2), fmt.Sprint(3*n))
	}
	return list
}

// TestProofsWithOneOtherWord: and with one left out, put in twice, or put at another place of its line.
func TestProofsWithOneOtherWord(t *testing.T) {
	outcomes := map[int]int{}
	for _, lines := range proofs(t) {
		look := func(at int, words []string) {
			changed := slices.Clone(lines)
			changed[at] = strings.Join(words, " ")
			outcomes[held(t, textOf(changed...)).Code]++
		}
		for at, line := range lines {
			words := strings.Split(line, " ")
			for i, word := range words {
				for _, other := range others(word) {
					look(at, slices.Replace(slices.Clone(words), i, i+1, other))
				}
				without := slices.Delete(slices.Clone(words), i, i+1)
				look(at, without)
				for to := range words {
					look(at, slices.Insert(slices.Clone(without), to, word))
					look(at, slices.Insert(slices.Clone(words), to, word))
				}
			}
		}
	}
	checkOutcomes(t, outcomes, api.OK, api.ErrText, api.ErrFalse, api.ErrNone)
}

// TestProofsWithOneOtherLine: one left out, put in twice, or put at another place.
func TestProofsWithOneOtherLine(t *testing.T) {
	outcomes := map[int]int{}
	for _, lines := range proofs(t) {
		outcomes[held(t, textOf(lines...)).Code]++
		for at, line := range lines {
			without := slices.Delete(slices.Clone(lines), at, at+1)
			outcomes[held(t, textOf(without...)).Code]++
			outcomes[held(t, textOf(lines[:at]...)).Code]++
			outcomes[held(t, textOf(lines[at:]...)).Code]++
			for to := range lines {
				outcomes[held(t, textOf(slices.Insert(slices.Clone(without), to, line)...)).Code]++
				outcomes[held(t, textOf(slices.Insert(slices.Clone(lines), to, line)...)).Code]++
				outcomes[held(t, textOf(slices.Insert(slices.Clone(lines), to, "")...)).Code]++
			}
		}
	}
	checkOutcomes(t, outcomes, api.OK, api.ErrText, api.ErrNone)
}

// TestProofsOfDrawnWords: lines of words that are drawn, so that faults of several kinds come at once.
func TestProofsOfDrawnWords(t *testing.T) {
	stream := sample.NewStream()
	names := []string{"prime", "prime", "factor", "factor", "root", "none", "squares", "order"}
	words := []string{"0", "1", "2", "3", "4", "5", "6", "7", "8", "9", "10", "13", "16", "21", "-1", "-2", "2^2", "3^2", "2^3", "2^1", "x", "1000000000000000000"}
	lengths := map[string]int{"prime": 3, "factor": 2, "root": 3, "none": 2, "squares": 5, "order": 3}
	outcomes := map[int]int{}
	for range 60000 {
		lines := linesOf(known())
		for range 1 + stream.Below(3) {
			name := names[stream.Below(len(names))]
			line := []string{name}
			many := lengths[name]
			if stream.Below(4) == 0 {
				many = stream.Below(6)
			}
			for range many {
				line = append(line, words[stream.Below(len(words)-3*stream.Below(3))])
			}
			lines = append(lines, strings.Join(line, " "))
		}
		outcomes[held(t, textOf(lines...)).Code]++
	}
	checkOutcomes(t, outcomes, api.OK, api.ErrText, api.ErrFalse, api.ErrNone)
}

// TestNoOtherNumberIsShown: powers, products of two primes and Carmichael's numbers are not, whatever G is put there.
func TestNoOtherNumberIsShown(t *testing.T) {
	for _, n := range []int{9, 15, 25, 27, 49, 91, 341, 561, 1105, 1387, 1729, 2047, 2465, 2821, 6601, 8911, 65535, 1373653, 25326001, 3215031751, 341550071728321} {
		powers := joint(t, "factor "+fmt.Sprint(n-1))
		words := strings.Split(powers[len(powers)-1], " ")[2:]
		for i, word := range words {
			words[i], _, _ = strings.Cut(word, "^")
		}
		for g := range min(n, 3000) {
			line := fmt.Sprintf("prime %d %d %s", n, g, strings.Join(words, " "))
			if f := held(t, textOf(append(slices.Clone(powers), line)...)); f != faultOf(api.ErrFalse, len(powers)) {
				t.Fatalf("Check of %q: %v", line, f)
			}
		}
	}
}
