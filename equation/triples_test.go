package equation_test

import (
	"fmt"
	"slices"
	"testing"

	"arithmetica/api"
	"arithmetica/equation"
)

// triedTriples tries all a and b below most, and answers those that have a c up to most, in the order of P16.2.
func triedTriples(most int) [][3]int {
	var list [][3]int
	for a := 1; a < most; a++ {
		c := a
		for b := a + 1; b < most; b++ {
			for c*c < a*a+b*b {
				c++
			}
			if c <= most && c*c == a*a+b*b && gcd(a, b, c) == 1 {
				list = append(list, [3]int{a, b, c})
			}
		}
	}
	slices.SortFunc(list, func(p, q [3]int) int {
		if p[2] != q[2] {
			return p[2] - q[2]
		}
		return p[0] - q[0]
	})
	return list
}

// TestTriplesByTryingAllPairs: P16.2 of each most.
func TestTriplesByTryingAllPairs(t *testing.T) {
	all := triedTriples(3000)
	for most := range 3001 {
		if list, f := equation.Triples(most); f != none || !slices.Equal(list, upTo(most, all)) {
			t.Fatalf("Triples(%d): %v, %v", most, list, f)
		}
	}
}

// TestTriplesKeepTheirPromise: sentence by sentence, of the greatest most.
func TestTriplesKeepTheirPromise(t *testing.T) {
	list, f := equation.Triples(3000)
	if len(list) != 477 || f != none {
		t.Fatalf("%d triples, %v", len(list), f)
	}
	sameC := 0
	for i, p := range list {
		a, b, c := p[0], p[1], p[2]
		if a < 1 || a >= b || c > 3000 || a*a+b*b != c*c || gcd(a, b, c) != 1 {
			t.Fatalf("%v is none", p)
		}
		if i == 0 {
			continue
		}
		if !isBefore(list[i-1], p, 2, 0) {
			t.Fatalf("%v stands behind %v", p, list[i-1])
		}
		if list[i-1][2] == c {
			sameC++
		}
	}
	if sameC == 0 {
		t.Errorf("no two have the same c")
	}
}

func TestTriplesOfChosenNumbers(t *testing.T) {
	for most, want := range map[int]string{
		0:  "[]",
		1:  "[]",
		4:  "[]",
		5:  "[[3 4 5]]",
		12: "[[3 4 5]]",
		13: "[[3 4 5] [5 12 13]]",
		24: "[[3 4 5] [5 12 13] [8 15 17]]",
		30: "[[3 4 5] [5 12 13] [8 15 17] [7 24 25] [20 21 29]]",
		65: "[[3 4 5] [5 12 13] [8 15 17] [7 24 25] [20 21 29] [12 35 37] [9 40 41] [28 45 53] [11 60 61] [16 63 65] [33 56 65]]",
	} {
		if list, f := equation.Triples(most); fmt.Sprint(list) != want || f != none {
			t.Errorf("Triples(%d): %v, %v, want %s", most, list, f, want)
		}
	}
	for _, most := range []int{2993, 2999, 3000} {
		if list, f := equation.Triples(most); list[len(list)-1] != [3]int{1768, 2415, 2993} || f != none {
			t.Errorf("Triples(%d) ends with %v, %v", most, list[len(list)-1], f)
		}
	}
}

func TestTriplesTellsItsFault(t *testing.T) {
	outcomes := map[api.Fault]int{}
	for _, most := range wrongs() {
		want := none
		if most < 0 || most > 3000 {
			want = faultOf(api.ErrRange, 0)
		}
		list, f := equation.Triples(most)
		if f != want || f != none && len(list) != 0 {
			t.Errorf("Triples(%d): %v, %v, want %v", most, list, f, want)
		}
		outcomes[f]++
	}
	if len(outcomes) != 2 {
		t.Errorf("not each outcome is met: %v", outcomes)
	}
}

// TestTriplesAndMarkovAnswerNewMemory: what is written over what they answer is not to be seen in the next answer.
func TestTriplesAndMarkovAnswerNewMemory(t *testing.T) {
	for name, call := range map[string]func(int) ([][3]int, api.Fault){"Triples": equation.Triples, "Markov": equation.Markov} {
		for _, most := range []int{0, 1, 5, 30, 3000} {
			list, _ := call(most)
			want := fmt.Sprint(list)
			clear(list[:cap(list)])
			if again, f := call(most); fmt.Sprint(again) != want || f != none {
				t.Errorf("%s(%d): %v, %v, and ahead of that %s", name, most, again, f, want)
			}
		}
	}
}
