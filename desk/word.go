package desk

import (
	"strconv"
	"strings"

	"arithmetica/api"
	"arithmetica/bound"
)

// word is a number (an int), a number with how often it is there (an api.Power), or, where it is neither of them, what is written (a string).
type word any

// read answers the name with which a line begins, and the words behind it.
func read(line string) (name string, words []word) {
	list := strings.Split(line, " ")
	for _, text := range list[1:] {
		words = append(words, wordOf(text))
	}
	return list[0], words
}

func wordOf(text string) word {
	if n, ok := numberOf(text); ok {
		return n
	}
	first, behind, _ := strings.Cut(text, "^")
	n, ok := numberOf(first)
	times, also := numberOf(behind)
	if ok && also && times > 1 {
		return api.Power{Prime: n, Times: times}
	}
	return text
}

// numberOf answers the number that is written there. Each is written in one way alone, so that it is held against that: there are others that strconv reads.
func numberOf(text string) (n int, ok bool) {
	n, err := strconv.Atoi(text)
	return n, err == nil && bound.IsNumber(n) && strconv.Itoa(n) == text
}

// numbers answers the numbers that the words are, and stops where one is none.
func numbers(words []word) []int {
	var list []int
	for _, w := range words {
		switch w := w.(type) {
		case int:
			list = append(list, w)
		case api.Power, string:
			panic(stop{api.ErrText})
		}
	}
	return list
}

// powers answers the numbers with how often they are there, and stops where a word is neither; a number alone is there once.
func powers(words []word) []api.Power {
	var list []api.Power
	for _, w := range words {
		switch w := w.(type) {
		case int:
			list = append(list, api.Power{Prime: w, Times: 1})
		case api.Power:
			list = append(list, w)
		case string:
			panic(stop{api.ErrText})
		}
	}
	return list
}

// inDecimal writes numbers.
func inDecimal(numbers []int) []string {
	var list []string
	for _, n := range numbers {
		list = append(list, strconv.Itoa(n))
	}
	return list
}

// asPowers writes primes with how often they are there, where that is more than once.
func asPowers(powers []api.Power) []string {
	var list []string
	for _, p := range powers {
		text := strconv.Itoa(p.Prime)
		if p.Times > 1 {
			text += "^" + strconv.Itoa(p.Times)
		}
		list = append(list, text)
	}
	return list
}

// joined writes words with one blank between each two.
func joined(words []string) string { return strings.Join(words, " ") }
