package desk

import "arithmetica/api"

// question is how many numbers stand behind its name, and what answers them.
type question struct {
	many   int
	answer func(n []int) string
}

// table is questions, by their names.
type table map[string]question

// answer answers the question that a line is, and stops where it is none of the table's.
func (t table) answer(line string) string {
	name, words := read(line)
	q, known := t[name]
	need(known && len(words) == q.many, api.ErrText)
	return q.answer(numbers(words))
}
