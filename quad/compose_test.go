package quad_test

import (
	"math/big"
	"testing"

	"arithmetica/api"
	"arithmetica/quad"
	"arithmetica/residue"
)

// composed is the chapter's sentence in long numbers, of two forms of one discriminant: g is turned until its A has no divisor with that of f, both are slid to one B, and what they are made of is put together.
func composed(t *testing.T, f, g api.Form) api.Form {
	t.Helper()
	one, other := longOf(f), withoutDivisor(t, g, f.A)
	// B is one.b + 2 one.a k, and leaves other.b by 2 other.a.
	gap := new(big.Int).Sub(other.b, one.b)
	k := product(gap.Rsh(gap, 1), inverse(one.a, other.a))
	k.Mod(k, other.a)
	one = one.turn(large(1), k, large(0), large(1))
	back := new(big.Int).Sub(one.b, other.b)
	other = other.turn(large(1), back.Div(back, product(large(2), other.a)), large(0), large(1))
	c, left := new(big.Int).DivMod(one.c, other.a, new(big.Int))
	if one.b.Cmp(other.b) != 0 || left.Sign() != 0 || other.c.Cmp(product(one.a, c)) != 0 {
		t.Fatalf("the test itself fails: %v and %v are like %v and %v", f, g, one, other)
	}
	return long{product(one.a, other.a), one.b, c}.reduced()
}

// inverse answers it by m, which may be 1.
func inverse(a, m *big.Int) *big.Int {
	if m.Cmp(large(1)) == 0 {
		return large(0)
	}
	return new(big.Int).ModInverse(a, m)
}

// withoutDivisor answers a form that is like g, and whose A has no divisor above 1 with n.
func withoutDivisor(t *testing.T, g api.Form, n int) long {
	t.Helper()
	for reach := 1; reach < 100; reach++ {
		for x := range reach + 1 {
			for y := range reach + 1 {
				a := longOf(g).value(large(x), large(y))
				if gcd(x, y) == 1 && new(big.Int).GCD(nil, nil, a, large(n)).Cmp(large(1)) == 0 {
					// x s - y q is 1.
					s, q := new(big.Int), new(big.Int)
					new(big.Int).GCD(s, q, large(x), large(y))
					return longOf(g).turn(large(x), q.Neg(q), large(y), s)
				}
			}
		}
	}
	t.Fatalf("the test itself fails: %v has no value without a divisor with %d", g, n)
	return long{}
}

// compose answers what Compose says of what is not wrong.
func compose(t *testing.T, f, g api.Form) api.Form {
	t.Helper()
	h, e := quad.Compose(f, g)
	if e != none || !isReduced(h) {
		t.Fatalf("Compose(%v, %v): %v, %v", f, g, h, e)
	}
	return h
}

// checkCompose holds P8.4 against long numbers.
func checkCompose(t *testing.T, f, g api.Form) {
	t.Helper()
	if got, want := compose(t, f, g), composed(t, f, g); got != want {
		t.Fatalf("Compose(%v, %v): %v, want %v", f, g, got, want)
	}
}

// byDiscriminant answers the forms of each discriminant.
func byDiscriminant(list []api.Form) map[int][]api.Form {
	answer := map[int][]api.Form{}
	for _, f := range list {
		answer[discriminant(f)] = append(answer[discriminant(f)], f)
	}
	return answer
}

// TestComposeOfSmallForms: all pairs of one discriminant, reduced or not, with and without a common divisor of their As.
func TestComposeOfSmallForms(t *testing.T) {
	many, withDivisor := 0, 0
	for _, list := range byDiscriminant(fine(formsWithin(10))) {
		for _, f := range list {
			for _, g := range list {
				checkCompose(t, f, g)
				many++
				if gcd(f.A, g.A) > 1 {
					withDivisor++
				}
			}
		}
	}
	if many < 10000 || withDivisor < 3000 {
		t.Errorf("only %d were tried, %d of them with a divisor", many, withDivisor)
	}
}

// TestComposeByItsSentence: f and g are already as the chapter puts them.
func TestComposeByItsSentence(t *testing.T) {
	for a := 1; a <= 12; a++ {
		for other := 1; other <= 12; other++ {
			for b := -9; b <= 9; b++ {
				for c := 1; c <= 9; c++ {
					f, g := form(a, b, other*c), form(other, b, a*c)
					if gcd(a, other) > 1 || wrong(f) != none || wrong(g) != none {
						continue
					}
					want := longOf(form(a*other, b, c)).reduced()
					if got := compose(t, f, g); got != want {
						t.Fatalf("Compose(%v, %v): %v, want %v", f, g, got, want)
					}
				}
			}
		}
	}
}

// formOfOne answers the form of d that has the value 1.
func formOfOne(d int) api.Form {
	if d%4 == 0 {
		return form(1, 0, -d/4)
	}
	return form(1, 1, (1-d)/4)
}

// checkGroup holds all pairs and threes of one discriminant's classes against the laws of a group that commutes.
func checkGroup(t *testing.T, d int) {
	t.Helper()
	list, _ := quad.Classes(d)
	one := formOfOne(d)
	table := map[[2]api.Form]api.Form{}
	for _, f := range list {
		if got := compose(t, f, opposite(f)); got != one || compose(t, f, one) != f || compose(t, one, f) != f {
			t.Errorf("Compose(%v, its opposite): %v", f, got)
		}
		met := map[api.Form]int{}
		for _, g := range list {
			h := compose(t, f, g)
			table[[2]api.Form{f, g}] = h
			met[h]++
		}
		if len(met) != len(list) {
			t.Errorf("%v composes to %d of %d classes", f, len(met), len(list))
		}
	}
	for _, f := range list {
		for _, g := range list {
			both := table[[2]api.Form{f, g}]
			if back := table[[2]api.Form{g, f}]; both != back {
				t.Fatalf("Compose(%v, %v): %v, but %v in the other order", f, g, both, back)
			}
			for _, h := range list {
				if left, right := table[[2]api.Form{both, h}], table[[2]api.Form{f, table[[2]api.Form{g, h}]}]; left != right {
					t.Fatalf("%v, %v, %v: %v and %v", f, g, h, left, right)
				}
			}
		}
	}
}

func TestComposeIsAGroupThatCommutes(t *testing.T) {
	for d := -3; d > -1200; d-- {
		if isDiscriminant(d) {
			checkGroup(t, d)
		}
	}
	for _, d := range []int{-5460, -4 * 3 * 5 * 7 * 11, -3299, -3 * 100 * 100, -4 * 81 * 25, -65536, -199995} {
		checkGroup(t, d)
	}
}

// TestComposeOfGreatDiscriminants: the definition, where there are too many classes for all threes.
func TestComposeOfGreatDiscriminants(t *testing.T) {
	for _, d := range []int{-200000, -199999, -199559, -176400} {
		list, _ := quad.Classes(d)
		for i, f := range list {
			for j, g := range list {
				if i == j || (i*31+j)%40 == 0 {
					checkCompose(t, f, g)
					checkCompose(t, f, opposite(g))
				}
			}
		}
	}
}

// TestComposeOfFormsThatAreLike: what f and g are turned to changes nothing.
func TestComposeOfFormsThatAreLike(t *testing.T) {
	all := append(turns(2), farTurns()...)
	for _, d := range []int{-23, -20, -84, -231, -300, -1155, -1999} {
		list, _ := quad.Classes(d)
		for i, f := range list {
			for j, g := range list {
				want := compose(t, f, g)
				for k, m := range all {
					one, other := turn(f, m), turn(g, all[(k*17+i+j)%len(all)])
					if wrong(one) != none || wrong(other) != none { // beyond MaxSmall
						continue
					}
					if got := compose(t, one, other); got != want {
						t.Fatalf("Compose(%v, %v): %v, want %v", one, other, got, want)
					}
				}
			}
		}
	}
}

// mates answers forms of f's discriminant with great parts: A is near n, and B one of the roots by 4 A of what is left for it.
func mates(t *testing.T, f api.Form, n int) []api.Form {
	t.Helper()
	d := discriminant(f)
	var list []api.Form
	for a := max(n-60, 1); a <= n; a++ {
		roots, _ := residue.Roots(d, 4*a)
		for _, b := range roots {
			for _, b := range []int{b, b - 2*a, b - 4*a} {
				if g := form(a, b, (b*b-d)/(4*a)); discriminant(g) == d && wrong(g) == none {
					list = append(list, g)
				}
			}
		}
	}
	return list
}

func TestComposeOfGreatForms(t *testing.T) {
	many, withDivisor, beyond := 0, 0, 0
	for i, f := range greatForms(400) {
		list := []api.Form{f, opposite(f), form(f.C, f.B, f.A), form(f.C, -f.B, f.A)}
		if i%10 == 0 {
			list = append(list, mates(t, f, small)...)
			list = append(list, mates(t, f, 720720)...)
		}
		for j, g := range list[:min(len(list), 40)] {
			checkCompose(t, f, g)
			h := list[(j+3)%len(list)]
			checkCompose(t, g, h)
			many += 2
			if e := gcd(g.A, h.A, (g.B+h.B)/2); e > 1 {
				withDivisor++
			}
			if compose(t, g, h).C > small {
				beyond++
			}
		}
	}
	if many < 5000 || withDivisor < 500 || beyond < 500 {
		t.Errorf("only %d were tried, %d with a common divisor, %d that go beyond MaxSmall", many, withDivisor, beyond)
	}
}

func TestComposeOfChosenForms(t *testing.T) {
	for _, c := range []struct{ f, g, want api.Form }{
		{form(2, 1, 3), form(2, 1, 3), form(2, -1, 3)},
		{form(2, -1, 3), form(2, -1, 3), form(2, 1, 3)},
		{form(2, 1, 3), form(2, -1, 3), form(1, 1, 6)},
		{form(1, 1, 6), form(2, 1, 3), form(2, 1, 3)},
		{form(3, 1, 2), form(3, 1, 2), form(2, 1, 3)}, // like 2 -1 3
		{form(1, 1, 1), form(1, -1, 1), form(1, 1, 1)},
		{form(1, 0, 1), form(1, 0, 1), form(1, 0, 1)},
		{form(2, 2, 3), form(2, 2, 3), form(1, 0, 5)},
		{form(2, 2, 3), form(3, -2, 2), form(1, 0, 5)},
		{form(2, 2, 11), form(3, 0, 7), form(5, 4, 5)},
		// What comes out may be beyond MaxSmall.
		{form(small, 1, small), form(small, -1, small), form(1, 1, small*small)},
		{form(small, 1, small), form(small, 1, small), form(1, 1, small*small)}, // which is its own opposite
		{form(small, 999999, small), form(small, -999999, small), form(1, 1, 750000500000)},
		{form(small, small, small-1), form(small, -small, small-1), form(1, 0, 749999000000)},
		{form(small-1, 0, small), form(small-1, 0, small), form(1, 0, small*(small-1))},
		{form(small-1, 0, small), form(small, 0, small-1), form(1, 0, small*(small-1))},
	} {
		checkCompose(t, c.f, c.g)
		if got := compose(t, c.f, c.g); got != c.want {
			t.Errorf("Compose(%v, %v): %v, want %v", c.f, c.g, got, c.want)
		}
	}
}

func TestComposeOfDiscriminantsThatDiffer(t *testing.T) {
	for _, c := range [][2]api.Form{
		{form(2, 1, 3), form(1, 0, 1)},
		{form(1, 0, 1), form(1, 1, 1)},
		{form(1, 0, small), form(1, 0, small-1)},
		{form(small, 1, small), form(small, 0, small-1)},
		{form(small, 999999, small), form(small, 999998, small-1)},
		{form(1, 1, 6), form(1, 0, 6)},
	} {
		for _, both := range [][2]api.Form{c, {c[1], c[0]}} {
			if h, e := quad.Compose(both[0], both[1]); h != (api.Form{}) || e != faultOf(api.ErrSize, 1) {
				t.Errorf("Compose(%v): %v, %v, want ErrSize at 1", both, h, e)
			}
		}
	}
}
