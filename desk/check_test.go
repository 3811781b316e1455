package desk_test

import (
	"fmt"
	"slices"
	"strings"
	"testing"

	"arithmetica/api"
	"arithmetica/desk"
)

// seven shows 3 and 7, and tells the primes of 63 and of 3.
const seven = "prime 3 2 2\nprime 7 3 2 3\nfactor 63 3^2 7\nfactor 3 3\n"

func TestChosenProofs(t *testing.T) {
	const none, text, wrong = api.ErrNone, api.ErrText, api.ErrFalse
	for _, x := range []struct {
		text     string
		code, at int
	}{
		{"", 0, 0},
		{seven, 0, 0},
		{"prime 7 3 2 3\n", none, 0},
		// Each kind of line, right and wrong.
		{"prime 5 2 2\n", 0, 0}, {"prime 5 3 2\n", 0, 0}, {"prime 5 4 2\n", wrong, 0}, {"prime 5 2 4\n", none, 0}, {"prime 5 2\n", wrong, 0},
		{"prime 5 1 2\n", wrong, 0}, {"prime 5 5 2\n", wrong, 0}, {"prime 5 7 2\n", wrong, 0}, {"prime 5 2 2 2\n", wrong, 0},
		{"prime 2 2\n", wrong, 0}, {"prime 2 1\n", wrong, 0}, {"prime 2 1 2\n", wrong, 0}, {"prime 2\n", text, 0}, {"prime 3 2\n", wrong, 0}, {"prime 1 2\n", wrong, 0},
		{"prime 4 2 3\n", none, 0}, {"prime 3 2 2\nprime 4 2 3\n", wrong, 1}, {"prime 9 2 2\n", wrong, 0}, {"prime 9 8 2\n", wrong, 0}, {"prime -3 2 2\n", wrong, 0},
		{seven + "prime 43 3 2 3 7\n", 0, 0}, {seven + "prime 43 3 2 7 3\n", wrong, 4}, {seven + "prime 43 3 3 2 7\n", wrong, 4}, {seven + "prime 43 3 2 3\n", wrong, 4}, {seven + "prime 43 6 2 3 7\n", wrong, 4},
		{seven + "prime 43 3 1 2 3 7\n", wrong, 4}, {seven + "prime 43 3 2 3 7 8\n", wrong, 4}, {seven + "prime 43 3 -2 2 3 7\n", wrong, 4}, {seven + "prime 43 3 0 2 3 7\n", wrong, 4},
		{"factor 1\n", 0, 0}, {"factor 2\n", wrong, 0}, {"factor 0\n", wrong, 0}, {"factor -1\n", wrong, 0}, {"factor 0 2\n", wrong, 0}, {"factor 2 2\n", 0, 0}, {"factor 1 2\n", wrong, 0}, {"factor 8 2^3\n", 0, 0},
		{"factor 8 2^2\n", wrong, 0}, {"factor 8 2^4\n", wrong, 0}, {"factor 8 2\n", wrong, 0}, {"factor 4 2 2\n", wrong, 0}, {"factor 8 2 2^2\n", wrong, 0}, {"factor 4 4\n", none, 0}, {"factor 2 1 2\n", wrong, 0}, {"factor 6 2 3\n", none, 0}, {"factor 2 -2\n", wrong, 0}, {"factor 2 0\n", wrong, 0},
		{"factor 4 2^1\n", text, 0}, {"factor 4 2^0\n", text, 0}, {"factor 4 2^-2\n", text, 0}, {"factor 4 2^\n", text, 0}, {"factor 4 ^2\n", text, 0}, {"factor 4 2^2^2\n", text, 0}, {"factor 4 2^+2\n", text, 0}, {"factor 4 2^02\n", text, 0},
		{"factor 2^2 2^2\n", text, 0}, {"factor 4 2 ^2\n", text, 0}, {"factor 4 02^2\n", text, 0}, {"factor 4 2^1000000000000000000\n", wrong, 0}, {"factor 4 2^1000000000000000001\n", text, 0}, {"factor\n", text, 0},
		{"factor 576460752303423488 2^59\n", 0, 0}, {"factor 576460752303423488 2^58\n", wrong, 0}, {"factor 576460752303423488 2^60\n", wrong, 0},
		{"root 4 15 7\n", 0, 0}, {"root 4 15 2\n", 0, 0}, {"root 4 15 3\n", wrong, 0}, {"root 4 15 17\n", wrong, 0}, {"root 4 15 -2\n", wrong, 0}, {"root -11 15 2\n", 0, 0}, {"root 19 15 2\n", 0, 0}, {"root 4 0 2\n", wrong, 0}, {"root 4 -15 2\n", wrong, 0},
		{"root 0 1 0\n", 0, 0}, {"root 7 1 0\n", 0, 0}, {"root 7 1 1\n", wrong, 0}, {"root 0 4 4\n", wrong, 0}, {"root 0 4 2\n", 0, 0}, {"root 1 15 15\n", wrong, 0},
		{"none 2 3\n", none, 0}, {seven + "none 2 3\n", 0, 0}, {seven + "none 1 3\n", wrong, 4}, {seven + "none 3 3\n", wrong, 4}, {seven + "none -1 3\n", 0, 0}, {seven + "none -1 7\n", 0, 0}, {seven + "none 2 7\n", wrong, 4}, {"none 1 2\n", wrong, 0}, {"none 0 2\n", wrong, 0}, {"none 2 9\n", none, 0}, {"none 2 -3\n", none, 0}, {"none 1 0\n", none, 0},
		{"squares 7 2 1 1 1\n", 0, 0}, {"squares 7 1 2 1 1\n", wrong, 0}, {"squares 7 1 1 1 2\n", wrong, 0}, {"squares 7 2 1 1 -1\n", wrong, 0}, {"squares 8 2 1 1 1\n", wrong, 0}, {"squares 0 0 0 0 0\n", 0, 0}, {"squares -1 0 0 0 0\n", wrong, 0}, {"squares 4 1 1 1 1\n", 0, 0}, {"squares 4 2 0 0 0\n", 0, 0},
		{"squares 1000000000000000000 1000000000 0 0 0\n", 0, 0}, {"squares 1000000000000000000 500000000 500000000 500000000 500000000\n", 0, 0}, {"squares 0 1000000001 0 0 0\n", wrong, 0}, {"squares 7 2 1 1\n", text, 0}, {"squares 7 2 1 1 1 0\n", text, 0},
		{"squares 0 4294967296 0 0 0\n", wrong, 0}, {"squares 0 0 0 0 -4294967296\n", wrong, 0}, {"squares 5 1000000001 0 0 x\n", text, 0},
		{seven + "order 2 7 3\n", 0, 0}, {seven + "order 2 7 63\n", wrong, 4}, {seven + "order 4 63 3\n", 0, 0}, {seven + "order 1 7 3\n", wrong, 4}, {seven + "order 2 7 6\n", none, 4}, {"order 2 7 3\n", none, 0}, {"factor 1\norder 8 7 1\n", 0, 0}, {"factor 1\norder 2 7 1\n", wrong, 1},
		{"factor 1\norder 0 1 1\n", 0, 0}, {"factor 1\norder 5 1 1\n", 0, 0}, {"factor 2 2\norder 5 1 2\n", wrong, 1}, {"order 5 1 1\n", none, 0}, {"order 2 0 3\n", wrong, 0}, {"order 2 -7 3\n", wrong, 0}, {"order 2 7 0\n", wrong, 0}, {"order 2 7 -3\n", wrong, 0}, {"factor 2 2\norder -1 7 2\n", 0, 0}, {"factor 2 2\norder 3 9 2\n", wrong, 1},
		{"order 2 7 1\n", none, 0}, {"order 2 7 2\n", none, 0}, {"factor 4 2^2\norder 2 5 4\n", 0, 0}, {"factor 4 2^2\norder 4 5 4\n", wrong, 1}, {"factor 4 2^2\norder 2 5 2\n", none, 1},
		// Of two faults the one that is asked for ahead is told.
		{"prime 9 2 3\n", wrong, 0}, {"prime 10 3 3\n", none, 0}, {"prime 10 3 3 2\n", none, 0}, {"prime 13 2 3 2\n", none, 0}, {"prime 13 2 2 3 5\n", none, 0}, {"prime 13 2 2 5 3\n", wrong, 0}, {"prime 13 14 3\n", wrong, 0}, {"prime 2 2 3\n", wrong, 0}, {"prime 13 2 12\n", none, 0}, {"prime 13 2 6 3\n", none, 0}, {"prime 13 2 3 6\n", none, 0},
		{"factor 0 3\n", wrong, 0}, {"factor 4 3\n", none, 0}, {"factor 4 3^2\n", none, 0}, {"factor 12 3 2^2\n", none, 0}, {"factor 12 2^3 3\n", wrong, 0}, {"factor 12 2 3\n", none, 0}, {"factor 12 2^2 1 3\n", wrong, 0}, {"prime 3 2 2\nfactor 12 2 3\n", wrong, 1}, {"prime 3 2 2\nfactor 12 3 2^2\n", wrong, 1}, {"factor 4 2^3 x\n", text, 0}, {"factor 4 5 2^1\n", text, 0}, {"factor 0 2^1\n", text, 0},
		{"none 1 5\n", none, 0}, {"order 2 0 9\n", wrong, 0}, {"order 2 9 7\n", none, 0}, {"prime 2 x\n", text, 0}, {"prime 9 2 4 x\n", text, 0}, {"root 1 0 x\n", text, 0}, {"none 2 x\n", text, 0}, {"order 0 0 x\n", text, 0},
		// A line is the first of which something is told, and what it would have shown or told isn't.
		{"prime 4 2 3\nx\n", none, 0}, {"factor 1\nx\nprime 4 2 3\n", text, 1}, {"prime 3 2 2\nprime 3 1 2\nx\n", wrong, 1}, {"factor 1\nfactor 1\nfactor 1\nfactor 3 3\n", none, 3},
		{"prime 3 2 2\nprime 3 2 2\nfactor 3 3\nfactor 3 3\norder 2 7 3\n", 0, 0}, {"factor 3 3\nprime 3 2 2\n", none, 0}, {"prime 3 2 2\norder 2 7 3\nfactor 3 3\n", none, 1}, {"none 2 3\nprime 3 2 2\n", none, 0},
		{"root 0 3 0\nnone 2 3\n", none, 1}, {"squares 3 1 1 1 0\nfactor 3 3\n", none, 1}, {"prime 3 2 2\nfactor 9 3^2\nfactor 9 3^2\norder 2 73 9\n", 0, 0}, {"prime 3 2 2\nfactor 9 3^2\norder 2 7 3\n", none, 2},
	} {
		want := faultOf(x.code, x.at)
		if got := held(t, x.text); got != want {
			t.Errorf("Check of %q: %v, want %v", x.text, got, want)
		}
	}
}

// TestWordsOfLines: each line is written in one way alone.
func TestWordsOfLines(t *testing.T) {
	for _, line := range []string{"prime 3 2 2", "prime 7 3 2 3", "factor 1", "factor 63 3^2 7", "root 4 15 7", "none 2 3", "squares 7 2 1 1 1", "order 2 7 3"} {
		if f := held(t, seven+line+"\n"); f != none {
			t.Fatalf("Check of %q: %v", line, f)
		}
		name, behind, _ := strings.Cut(line, " ")
		list := []string{
			"", " ", "  ", "\x00", "\r", " " + line, line + " ", "  " + line, line + "  ", strings.Replace(line, " ", "  ", 1), strings.ReplaceAll(line, " ", "  "), strings.ReplaceAll(line, " ", "\t"), strings.ReplaceAll(line, " ", ", "),
			line + "\r", "\r" + line, line + "\t", line + "\x00", "\xef\xbb\xbf" + line, line + "\xff", "\xc3" + line, strings.ReplaceAll(line, " ", "\u00a0"), line + ".", line + ";", line + " # it is so", "# " + line,
			name, name + " ", name + " x", strings.ToUpper(line), strings.ToUpper(line[:1]) + line[1:], name + "s " + behind, name[1:] + " " + behind, name + behind, behind, behind + " " + name, line + " " + line, "- " + behind, "gcd " + behind, "pell 7", line + " " + name,
			line + " x", line + " 1 x", line + " -", line + " +", line + " ^", line + " 2^", line + " ^2", line + " 2^2^2", line + " 1.0", line + " 1e3", line + " 0x3", line + " 1_0", line + " ٣", line + " 3\x00", line + " NaN", line + " --1",
		}
		for _, text := range list {
			if f := held(t, seven+text+"\n"); f != faultOf(api.ErrText, 4) {
				t.Errorf("Check of %q: %v", text, f)
			}
		}
		if f := held(t, seven+"\n"+line+"\n"); f != faultOf(api.ErrText, 4) {
			t.Errorf("Check of an empty line and %q: %v", line, f)
		}
		checkWritten(t, line)
	}
}

// checkWritten writes each number of a line in other ways, and puts in other numbers.
func checkWritten(t *testing.T, line string) {
	t.Helper()
	words := strings.Split(line, " ")
	for at := range words[1:] {
		for _, word := range []string{"0%s", "00%s", "+%s", "-0%s", "--%s", " %s", "%s ", "%s.", "%s.0", "'%s", "%s'", "0x%s", "%se0", "1_%s", "%sx", "x%s", "%s^1", "%s^0", "%s^-2", "%s^", "^%s", "%s\x00", "%s\xff"} {
			checkText(t, words, at+1, strings.Replace(word, "%s", words[at+1], 1))
		}
		for _, word := range []string{"-0", "+0", "00", "-00", "+1", "01", "-01", "1000000000000000001", "-1000000000000000001", "9223372036854775807", "9223372036854775808", "-9223372036854775808", "-9223372036854775809", "18446744073709551617", "18446744073709551619", strings.Repeat("9", 30), strings.Repeat("9", 3000), "-", "+", "", "x", "1-1", "1 000"} {
			checkText(t, words, at+1, word)
		}
		// These are numbers, so that it is told what is not so, if anything.
		for _, n := range []int{top, -top, top - 1, 1 - top} {
			text := textOf(spoilt(words, at+1, fmt.Sprint(n)))
			if f := held(t, seven+text); f.Code == api.ErrText {
				t.Errorf("Check of %q: %v", text, f)
			}
		}
	}
}

// spoilt answers a line with another word.
func spoilt(words []string, at int, word string) string {
	words = slices.Clone(words)
	words[at] = word
	return strings.Join(words, " ")
}

func checkText(t *testing.T, words []string, at int, word string) {
	t.Helper()
	line := spoilt(words, at, word)
	if f := held(t, seven+line+"\n"); f != faultOf(api.ErrText, 4) {
		t.Errorf("Check of %q: %v", line, f)
	}
}

// filled is a text of so many bytes, the lines of which are so.
func filled(bytes int) string {
	for many := range 9 {
		if left := bytes - many*len("root 1 1 0\n"); left >= 0 && left%len("factor 1\n") == 0 {
			return strings.Repeat("root 1 1 0\n", many) + strings.Repeat("factor 1\n", left/len("factor 1\n"))
		}
	}
	return ""
}

func TestLengthsOfTexts(t *testing.T) {
	for _, bytes := range []int{api.MaxText - 2, api.MaxText - 1, api.MaxText} {
		text := filled(bytes)
		if len(text) != bytes || held(t, text) != none {
			t.Errorf("Check of %d bytes: %v", len(text), desk.Check(text))
		}
		last := strings.Count(text, "\n") - 1
		if f := held(t, text[:bytes-2]+"x\n"); f != faultOf(api.ErrText, last) {
			t.Errorf("Check of %d bytes with a wrong last line: %v", bytes, f)
		}
		if f := held(t, text[:bytes-1]+"x"); f != faultOf(api.ErrText, last) {
			t.Errorf("Check of %d bytes without a line feed: %v", bytes, f)
		}
	}
	for _, bytes := range []int{api.MaxText + 1, api.MaxText + 2, 2 * api.MaxText, 100 * api.MaxText} {
		for _, text := range []string{filled(bytes), "x\n" + filled(bytes-2), filled(bytes-1) + "x", strings.Repeat("\n", bytes), strings.Repeat("x", bytes), strings.Repeat("\xff", bytes), strings.Repeat("é", bytes/2) + strings.Repeat("\n", bytes%2)} {
			if f := held(t, text); len(text) != bytes || f != faultOf(api.ErrMany, 0) {
				t.Errorf("Check of %d bytes: %v", len(text), f)
			}
		}
	}
	// Bytes are counted, not signs.
	for _, text := range []string{strings.Repeat("é", api.MaxText/2), strings.Repeat("\n", api.MaxText), strings.Repeat("x", api.MaxText), strings.Repeat(" ", api.MaxText-1) + "\n", "factor " + strings.Repeat("1", api.MaxText-8) + "\n", "prime 3 2" + strings.Repeat(" 2", (api.MaxText-10)/2) + "\n"} {
		held(t, text)
	}
	if f := desk.Check(strings.Repeat("é", api.MaxText/2+1)); f != faultOf(api.ErrMany, 0) {
		t.Errorf("Check of %d signs: %v", api.MaxText/2+1, f)
	}
}

// TestLastLines: that the last line has no line feed is told ahead of what is wrong with any line.
func TestLastLines(t *testing.T) {
	for _, ahead := range []string{"", "factor 1\n", "x\n", "\n", "\n\n", "prime 3 2 2\nfactor 3 3\n", "factor 0\nnone 2 3\n", seven} {
		last := strings.Count(ahead, "\n")
		for _, line := range []string{"x", "factor 1", "root", " ", "factor 1\r", "prime 4 2 3", "\x00", "\xff"} {
			if f := held(t, ahead+line); f != faultOf(api.ErrText, last) {
				t.Errorf("Check of %q: %v", ahead+line, f)
			}
		}
	}
}
