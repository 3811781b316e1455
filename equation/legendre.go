package equation

import (
	"slices"

	"arithmetica/residue"
	"arithmetica/whole"
)

// conic is a x^2 + b y^2 + c z^2, where no prime's square divides a b c, and none of a, b, c is greater in size than c.
type conic struct{ a, b, c int }

// legendre answers what Legendre does, of a, b, c without a fault, and whether there are such x, y, z.
func legendre(numbers [3]int) (root [3]int, ok bool) {
	places := []int{0, 1, 2}
	slices.SortFunc(places, func(i, j int) int { return size(numbers[i]) - size(numbers[j]) })
	e := conic{numbers[places[0]], numbers[places[1]], numbers[places[2]]}
	sorted, ok := e.root()
	for i, place := range places {
		root[place] = sorted[i]
	}
	return root, ok
}

// root answers some x, y, z, none below 0, without a divisor above 1 of all three, for which the conic is 0, and whether there are any.
func (e conic) root() (root [3]int, ok bool) {
	ok = e.anyPair(func(x, y int) bool {
		z, is := squareRoot(-(e.a*x*x + e.b*y*y) / e.c)
		root = [3]int{x, y, z}
		return is
	})
	if !ok {
		return [3]int{}, false
	}
	g := divisor(root[:]...)
	return [3]int{root[0] / g, root[1] / g, root[2] / g}, true
}

// anyPair tells whether one of the x and y fits for which c divides a x^2 + b y^2, as far as they must be tried; it ends with the first that does.
//
// If there are any x, y, z, there are some with x^2 up to the size of b c, and y^2 up to that of a c (Holzer). Where x is 0 in them, b is 1 and c is -1, or the other way round; then a is one of these, too, and there are some with x of 1.
func (e conic) anyPair(fits func(x, y int) bool) bool {
	mostX, _ := whole.Root(size(e.b*e.c), 2)
	mostY, _ := whole.Root(size(e.a*e.c), 2)
	by := size(e.c)
	for _, slope := range e.slopes() {
		for x := 1; x <= mostX; x++ {
			for y := slope * x % by; y <= mostY; y += by {
				if fits(x, y) {
					return true
				}
			}
		}
	}
	return false
}

// slopes answers all s from 0 to the size of c less 1 for which c divides a + b s^2. As no prime's square divides c, it divides a x^2 + b y^2 just if y leaves what s x leaves, left by the size of c, for one of them.
func (e conic) slopes() []int {
	by := size(e.c)
	inverse, _ := whole.Inverse(e.b, by)
	list, _ := residue.Roots(-e.a*e.b, by)
	for i, root := range list {
		list[i] = root * inverse % by
	}
	return list
}

// squareRoot answers the root of n, and whether it is whole.
func squareRoot(n int) (root int, is bool) {
	if n < 0 {
		return 0, false
	}
	root, _ = whole.Root(n, 2)
	return root, root*root == n
}
