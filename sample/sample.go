// Package sample holds numbers and matrices that the tests of several packages try; the program itself does not need it.
package sample

import (
	"math"
	"slices"

	"arithmetica/api"
)

// Edges are the numbers at which a check or a step may go wrong, those beyond the bound too.
func Edges() []int {
	const top = api.MaxNum
	return []int{
		math.MinInt, math.MinInt + 1, -top - 1, -top, -top + 1, -6, -2, -1, 0, 1, 2, 3, 6, 59, 60, 61,
		1<<31 - 1, 1 << 32, 999999999, 1000000000, top/2 + 1, top - 11, top - 1, top, top + 1, math.MaxInt - 1, math.MaxInt,
	}
}

// Spread answers numbers of all lengths and both signs, the same ones each time.
func Spread(many int) []int {
	state := uint64(20261116)
	draw := func(below int) int {
		state = state*6364136223846793005 + 1442695040888963407
		return int(state>>4) % below
	}
	var list []int
	for range many {
		n := draw(api.MaxNum+1) >> draw(60)
		if draw(1000) < 500 {
			n = -n
		}
		list = append(list, n)
	}
	return list
}

// Numbers are those of Spread, and the edges that are numbers.
func Numbers(many int) []int {
	list := Spread(many)
	for _, n := range Edges() {
		if -api.MaxNum <= n && n <= api.MaxNum {
			list = append(list, n)
		}
	}
	return list
}

// Positive are those of Numbers that are above 0.
func Positive(many int) []int {
	return slices.DeleteFunc(Numbers(many), func(n int) bool { return n <= 0 })
}

// Pairs answers about so many pairs with parts of all lengths and signs, up to MaxPart, and those with edges as both parts.
func Pairs(many int) []api.Pair {
	const most = api.MaxPart
	edges := []int{-most, -most + 1, -2, -1, 0, 1, 2, most - 1, most}
	var list []api.Pair
	for _, a := range edges {
		for _, b := range edges {
			list = append(list, api.Pair{A: a, B: b})
		}
	}
	// About half of all lengths are those of parts.
	parts := slices.DeleteFunc(Spread(4*many), func(n int) bool { return n < -most || n > most })
	for both := range slices.Chunk(parts[:len(parts)/2*2], 2) {
		list = append(list, api.Pair{A: both[0], B: both[1]})
	}
	return list
}
