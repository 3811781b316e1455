package padic

import "arithmetica/api"

// roots answers the numbers at which l leaves 0, left by p^k, in no order, and whether there are at most MaxList of them, and of those by each lower power of p.
func roots(p, k int, l []int) ([]int, bool) {
	list := rootsByPrime(p, l)
	power := p
	for range k - 1 {
		if len(list) > api.MaxList {
			return nil, false
		}
		list = rootsAbove(list, power, p, l)
		power *= p
	}
	return list, len(list) <= api.MaxList
}

func rootsByPrime(p int, l []int) []int {
	var list []int
	for x := range p {
		if valueAt(l, x, p) == 0 {
			list = append(list, x)
		}
	}
	return list
}

// rootsAbove answers the numbers from 0 to power p - 1 at which l leaves 0, left by power p, where list has those from 0 to power - 1, left by power. It ends once there are more than MaxList.
//
// At root + t power, l is its value at root, and t power times its slope there, and more that has the square of power in it, and so power p.
func rootsAbove(list []int, power, p int, l []int) []int {
	var above []int
	for _, root := range list {
		value := valueAt(l, root, power*p) / power
		slope := slopeAt(l, root, p)
		for t := range p {
			if (value+t*slope)%p == 0 {
				above = append(above, root+t*power)
			}
		}
		if len(above) > api.MaxList {
			return above
		}
	}
	return above
}
