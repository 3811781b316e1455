package desk_test

import (
	"fmt"
	"strings"
	"sync"
	"testing"

	"arithmetica/api"
	"arithmetica/desk"
	"arithmetica/sample"
)

// drawnTexts are texts of bytes, of words and of lines that are drawn, most of which are no proofs.
func drawnTexts(many int) []string {
	stream := sample.NewStream()
	words := []string{"prime", "factor", "root", "none", "squares", "order", "gcd", "inverse", "power", "next", "phi", "jacobi", "roots", "classes", "expand", "pell", "points", "markov", "partitions", "0", "1", "2", "3", "5", "7", "-1", "-4", "2^2", "3^2", "1000000000000000000", "-1000000000000000000", "999999999999999989", "x", "", "^", "\xff"}
	parts := []string{" ", " ", " ", " ", "\n", "\n", "  ", "\r\n", "\x00"}
	var list []string
	for range many {
		var text strings.Builder
		for range stream.Below(12) {
			text.WriteString(words[stream.Below(len(words))] + parts[stream.Below(len(parts)-5*stream.Below(2))])
		}
		for range stream.Below(5) * stream.Below(2) {
			text.WriteByte(byte(stream.Below(256)))
		}
		list = append(list, text.String()+"\n"[stream.Below(2):])
	}
	return list
}

// outcome is what Check and Run tell of a text, and whether Prove has a proof of it, as a question.
func outcome(text string) string {
	question, _, _ := strings.Cut(text, "\n")
	_, f := desk.Prove(question)
	answers, also := desk.Run(text)
	return fmt.Sprintf("%v, %v, %q, %v", desk.Check(text), f, answers, also)
}

func TestNoCallPanics(t *testing.T) {
	for _, text := range drawnTexts(20000) {
		held(t, text)
		checkRun(t, text)
		question, _, _ := strings.Cut(text, "\n")
		checkProve(t, question)
	}
}

// checkRun fails, unless there is an answer to each line, or the last one has no line feed.
func checkRun(t *testing.T, text string) {
	t.Helper()
	want := none
	many := strings.Count(text, "\n")
	if text != "" && !strings.HasSuffix(text, "\n") {
		want, many = faultOf(api.ErrText, many), 0
	}
	if answers, f := desk.Run(text); f != want || strings.Count(answers, "\n") != many {
		t.Errorf("Run of %q: %q, %v, want %v", text, answers, f, want)
	}
}

// checkProve fails, unless a proof is answered of which Check says nothing, or none with a fault.
func checkProve(t *testing.T, question string) {
	t.Helper()
	text, f := desk.Prove(question)
	if f == none {
		f = held(t, text)
	} else if text != "" || f.At != 0 || f.Code == api.ErrMany {
		t.Errorf("Prove of %q: %q, %v", question, text, f)
		return
	}
	if f == none && text == "" {
		t.Errorf("Prove of %q has no proof", question)
	}
}

// TestCallsHangOnTheirArgumentsAlone: nothing is kept from call to call, nor shared by calls that go side by side.
func TestCallsHangOnTheirArgumentsAlone(t *testing.T) {
	texts := append(drawnTexts(300), seven, known(), "none 2 3\n", "order 2 7 3\n", "prime 7 3 2 3\n", "factor 63 3^2 7\n", "order 10 561\n", "squares 999999999999999999\n", "roots 2 5\npell 61\nfactor 360\npartitions 200\n")
	var want []string
	for _, text := range texts {
		want = append(want, outcome(text))
	}
	var group sync.WaitGroup
	for worker := range 4 {
		group.Go(func() {
			for i := range texts {
				at := (i + worker*len(texts)/4) % len(texts)
				if got := outcome(texts[at]); got != want[at] {
					t.Errorf("of %q: %s, and ahead %s", texts[at], got, want[at])
				}
			}
		})
	}
	group.Wait()
}
