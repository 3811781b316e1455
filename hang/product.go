package hang

import (
	"arithmetica/api"
	"arithmetica/prime"
)

// productOf answers the product of what each power of a prime in n brings; ErrRange at 0, if n is not from 1 to MaxNum.
func productOf(n int, brings func(api.Power) int) (int, api.Fault) {
	powers, f := prime.Factor(n)
	if f.Code != api.OK {
		return 0, f
	}
	return product(powers, brings), api.Fault{}
}

func product(powers []api.Power, brings func(api.Power) int) int {
	answer := 1
	for _, p := range powers {
		answer *= brings(p)
	}
	return answer
}

// divisors answers all numbers above 0 that divide the product of powers, in no order. Those in which a prime is once more follow on those in which it is once less, as many places behind them as there were divisors without it.
func divisors(powers []api.Power) []int {
	list := []int{1}
	for _, p := range powers {
		without := len(list)
		for range p.Times * without {
			list = append(list, list[len(list)-without]*p.Prime)
		}
	}
	return list
}
