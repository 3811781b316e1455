package frac_test

import (
	"math/big"
	"strings"
	"testing"

	"arithmetica/api"
	"arithmetica/frac"
	"arithmetica/sample"
)

const mostSteps = api.MaxText

// place is one of the tree, with its ends, as long numbers.
type place struct{ lowUp, lowDown, up, down, highUp, highDown *big.Int }

func root() place {
	return place{large(0), large(1), large(1), large(1), large(1), large(0)}
}

func (p place) between() place {
	p.up = new(big.Int).Add(p.lowUp, p.highUp)
	p.down = new(big.Int).Add(p.lowDown, p.highDown)
	return p
}

func (p place) left() place {
	p.highUp, p.highDown = p.up, p.down
	return p.between()
}

func (p place) right() place {
	p.lowUp, p.lowDown = p.up, p.down
	return p.between()
}

// order tells how x lies to the fraction of the place.
func (p place) order(x api.Frac) int {
	return new(big.Int).Mul(large(x.Up), p.down).Cmp(new(big.Int).Mul(large(x.Down), p.up))
}

// gone goes to x, above 0, one by one, but not more than so many steps.
func gone(x api.Frac, most int) (path string, ok bool) {
	var steps strings.Builder
	p := root()
	for order := p.order(x); order != 0; order = p.order(x) {
		if steps.Len() == most {
			return "", false
		}
		if order < 0 {
			p = p.left()
			steps.WriteByte('L')
		} else {
			p = p.right()
			steps.WriteByte('R')
		}
	}
	return steps.String(), true
}

// reached goes a right path, one by one.
func reached(path string) (api.Frac, api.Fault) {
	p := root()
	for i, step := range path {
		if step == 'L' {
			p = p.left()
		} else {
			p = p.right()
		}
		if p.up.Cmp(large(top)) > 0 || p.down.Cmp(large(top)) > 0 {
			return api.Frac{}, faultOf(api.ErrMuch, i)
		}
	}
	return fraction(int(p.up.Int64()), int(p.down.Int64())), none
}

// checkPath holds Path of a right fraction above 0 against the steps gone one by one, and turns it back.
func checkPath(t *testing.T, x api.Frac) {
	t.Helper()
	want, ok := gone(x, mostSteps)
	wantFault := none
	if !ok {
		wantFault = faultOf(api.ErrMuch, 0)
	}
	path, f := frac.Path(x)
	if path != want || f != wantFault {
		t.Errorf("Path(%v): %d steps, %v, want %d steps, %v", x, len(path), f, len(want), wantFault)
		return
	}
	if back, f := frac.Node(path); ok && (back != x || f != none) {
		t.Errorf("Node of the path to %v: %v, %v", x, back, f)
	}
}

// checkNode holds Node of a right path against the steps gone one by one, and turns it back.
func checkNode(t *testing.T, path string) {
	t.Helper()
	want, wantFault := reached(path)
	x, f := frac.Node(path)
	if x != want || f != wantFault {
		t.Errorf("Node of %d steps: %v, %v, want %v, %v", len(path), x, f, want, wantFault)
		return
	}
	if f != none {
		return
	}
	checkAnswer(t, x)
	if back, f := frac.Path(x); back != path || f != none {
		t.Errorf("Path(%v): %d steps, %v, want %d steps", x, len(back), f, len(path))
	}
}

func TestPathAgainstStepsOfSmallFractions(t *testing.T) {
	for _, x := range right(1, 130, 130) {
		checkPath(t, x)
	}
}

func TestPathAgainstStepsOfGreatFractions(t *testing.T) {
	list := drawn(400)
	for _, n := range sample.Positive(40) {
		list = append(list, fraction(n, 1), fraction(1, n), fraction(n, n-1), fraction(n-1, n))
	}
	few := 0
	for _, x := range list {
		if x.Up < 1 || x.Down < 1 || !isNumber(x.Up) {
			continue
		}
		checkPath(t, x)
		if _, f := frac.Path(x); f == none {
			few++
		}
	}
	if few < 60 {
		t.Errorf("only %d of %d have a path", few, len(list))
	}
}

// mirrored turns each step.
func mirrored(path string) string { return strings.NewReplacer("L", "R", "R", "L").Replace(path) }

// TestPathOfTheMostStepsAndOneMore: in one run, and in several.
func TestPathOfTheMostStepsAndOneMore(t *testing.T) {
	const half = mostSteps / 2
	for _, path := range []string{
		strings.Repeat("R", mostSteps),
		strings.Repeat("R", half) + strings.Repeat("L", half),
		"L" + strings.Repeat("R", mostSteps-1),
		strings.Repeat("R", mostSteps-2) + "LR",
		strings.Repeat("LRRL", 5) + strings.Repeat("R", mostSteps-20),
	} {
		for _, path := range []string{path, mirrored(path)} {
			checkNode(t, path)
			x, f := reached(path)
			if f != none {
				t.Fatalf("a path of %d steps leads beyond the bound", len(path))
			}
			checkPath(t, x)
			for _, step := range []string{"L", "R"} {
				y, _ := reached(path + step)
				if got, f := frac.Path(y); got != "" || f != faultOf(api.ErrMuch, 0) {
					t.Errorf("Path(%v) of %d steps: %d steps, %v", y, len(path)+1, len(got), f)
				}
			}
		}
	}
}

func TestPathOfChosenFractions(t *testing.T) {
	for x, want := range map[api.Frac]string{
		fraction(1, 1): "", fraction(3, 5): "LRL", fraction(1, 2): "L", fraction(2, 1): "R", fraction(2, 3): "LR", fraction(3, 2): "RL", fraction(5, 1): "RRRR", fraction(1, 4): "LLL",
		fraction(7, 5): "RLLR", fraction(355, 113): "RRRLLLLLL" + "LRRRRRRRRRRRRRRR", fraction(20001, 1): strings.Repeat("R", 20000), fraction(1, 20001): strings.Repeat("L", 20000),
	} {
		if path, f := frac.Path(x); path != want || f != none {
			t.Errorf("Path(%v): %q, %v, want %q", x, path, f, want)
		}
	}
}

// stepsTo counts the steps to x, above 0, by the differences of Up and Down, as they are taken all at once.
func stepsTo(x api.Frac) int {
	many := 0
	up, down := x.Up, x.Down
	for down != 0 {
		many += up / down
		up, down = down, up%down
	}
	return many - 1
}

func wrongPath(x api.Frac) api.Fault {
	if f := wrong(x); f != none {
		return f
	}
	if x.Up <= 0 {
		return faultOf(api.ErrRange, 0)
	}
	if stepsTo(x) > mostSteps {
		return faultOf(api.ErrMuch, 0)
	}
	return none
}

func TestPathTellsItsFaultsInOrder(t *testing.T) {
	outcomes := map[api.Fault]int{}
	for _, x := range pairs() {
		want, wantSteps := wrongPath(x), 0
		if want == none {
			wantSteps = stepsTo(x)
		}
		path, f := frac.Path(x)
		if f != want || len(path) != wantSteps {
			t.Errorf("Path(%v): %d steps, %v, want %d steps, %v", x, len(path), f, wantSteps, want)
		}
		outcomes[f]++
	}
	checkOutcomes(t, outcomes, none, faultOf(api.ErrRange, 0), faultOf(api.ErrForm, 0), faultOf(api.ErrMuch, 0))
}

func TestPathOfChosenFaults(t *testing.T) {
	for x, code := range map[api.Frac]int{
		fraction(top+1, 1): api.ErrRange, fraction(1, top+1): api.ErrRange, fraction(-top-1, 0): api.ErrRange, fraction(2, 4): api.ErrForm, fraction(1, 0): api.ErrForm, fraction(-1, 0): api.ErrForm, fraction(-2, 4): api.ErrForm, fraction(0, 2): api.ErrForm, fraction(-1, -2): api.ErrForm,
		fraction(0, 1): api.ErrRange, fraction(-1, 2): api.ErrRange, fraction(-top, 1): api.ErrRange, fraction(-1, top): api.ErrRange,
		fraction(20002, 1): api.ErrMuch, fraction(1, 20002): api.ErrMuch, fraction(top, 1): api.ErrMuch, fraction(1, top): api.ErrMuch, fraction(top, top-1): api.ErrMuch, fraction(top-1, top): api.ErrMuch, fraction(top/2-1, top): api.ErrMuch,
	} {
		if path, f := frac.Path(x); path != "" || f != faultOf(code, 0) {
			t.Errorf("Path(%v): %d steps, %v, want %d", x, len(path), f, code)
		}
	}
}

// paths are all of at most so many steps.
func paths(most int) []string {
	list := []string{""}
	for i := 0; len(list[i]) < most; i++ {
		list = append(list, list[i]+"L", list[i]+"R")
	}
	return list
}

// TestEachFractionHasJustOnePath: a step makes Up and Down together greater by 1, at least, so that all fractions up to a sum are reached by these paths.
func TestEachFractionHasJustOnePath(t *testing.T) {
	const most = 14
	ways := map[api.Frac]int{}
	for _, path := range paths(most) {
		checkNode(t, path)
		x, _ := frac.Node(path)
		ways[x]++
		if ways[x] > 1 {
			t.Errorf("%q leads to %v, as another path does", path, x)
		}
	}
	for _, x := range right(1, most+1, most+1) {
		if x.Up+x.Down <= most+2 && ways[x] != 1 {
			t.Errorf("%d paths lead to %v", ways[x], x)
		}
	}
}

// drawnPaths are long ones with runs of all lengths, both within the bound of a number and beyond it.
func drawnPaths(many int) []string {
	var list []string
	numbers := sample.Spread(40 * many)
	for i := range many {
		var path strings.Builder
		for j, n := range numbers[40*i : 40*(i+1)] {
			step := "L"
			if (i+j)%2 == 0 {
				step = "R"
			}
			run := 1 + size(n)%(1+i%9*i%9)
			if j == 7 && i%5 == 0 {
				run += size(n) % 15000
			}
			path.WriteString(strings.Repeat(step, run))
		}
		if path.Len() <= mostSteps {
			list = append(list, path.String(), path.String()[:path.Len()/2], path.String()[:path.Len()/4])
		}
	}
	return list
}

func TestNodeAgainstStepsOfLongPaths(t *testing.T) {
	outcomes := map[bool]int{}
	for _, path := range drawnPaths(400) {
		checkNode(t, path)
		_, f := frac.Node(path)
		outcomes[f == none]++
	}
	if outcomes[true] < 100 || outcomes[false] < 100 {
		t.Errorf("%d paths lead to a fraction, and %d beyond", outcomes[true], outcomes[false])
	}
	for _, pattern := range []string{"L", "R", "LR", "RL", "LLR", "RRL", "LRR", "RLLLLLLLLL"} {
		for _, length := range []int{1, 2, 10, 80, 84, 85, 86, 87, 88, 200, 999, mostSteps} {
			checkNode(t, strings.Repeat(pattern, mostSteps)[:length])
		}
	}
}

// shortPaths are those of fewer than 2000 steps to fractions with this Up, about MaxNum, and a Down that leaves few steps.
func shortPaths(up int) map[api.Frac]string {
	list := map[api.Frac]string{}
	for down := 618033988749894000; down < 618033988749894800; down++ {
		if x := fraction(up, down); gcd(up, down) == 1 && stepsTo(x) < 2000 {
			list[x], _ = gone(x, 2000)
		}
	}
	return list
}

// TestNodeTurnsJustAtMaxNum: a step to a fraction whose Up or Down is MaxNum, all that may come next, and a step to one of MaxNum + 1.
func TestNodeTurnsJustAtMaxNum(t *testing.T) {
	just, beyond := shortPaths(top), shortPaths(top+1)
	if len(just) < 100 || len(beyond) < 100 {
		t.Errorf("only %d and %d paths are tried", len(just), len(beyond))
	}
	for x, path := range just {
		checkTurn(t, path, x)
		checkTurn(t, mirrored(path), fraction(x.Down, x.Up))
	}
	for x, path := range beyond {
		checkBeyond(t, path, len(path)-1)
		checkBeyond(t, mirrored(path), len(path)-1)
		checkBeyond(t, path+"LR", len(path)-1)
		if got, f := frac.Node(path[:len(path)-1]); max(got.Up, got.Down) > top || f != none {
			t.Errorf("Node of all but the last step to %v: %v, %v", x, got, f)
		}
	}
}

// checkTurn: path leads to x, and each step more beyond the bound.
func checkTurn(t *testing.T, path string, x api.Frac) {
	t.Helper()
	if got, f := frac.Node(path); got != x || f != none {
		t.Errorf("Node of the path to %v: %v, %v", x, got, f)
	}
	for _, more := range []string{"L", "R", "LLRLRRR", "RR" + strings.Repeat("L", 10000)} {
		checkBeyond(t, path+more, len(path))
	}
}

func checkBeyond(t *testing.T, path string, at int) {
	t.Helper()
	if got, f := frac.Node(path); got != (api.Frac{}) || f != faultOf(api.ErrMuch, at) {
		t.Errorf("Node of %d steps: %v, %v, want ErrMuch at %d", len(path), got, f, at)
	}
}

func TestNodeOfChosenPaths(t *testing.T) {
	for path, want := range map[string]api.Frac{
		"": fraction(1, 1), "L": fraction(1, 2), "R": fraction(2, 1), "LRL": fraction(3, 5), "RLR": fraction(5, 3), "LL": fraction(1, 3), "RRRR": fraction(5, 1),
		strings.Repeat("R", 20000): fraction(20001, 1), strings.Repeat("L", 20000): fraction(1, 20001), strings.Repeat("LR", 42) + "L": fraction(420196140727489673, 679891637638612258), // F86 and F87: F88 is above MaxNum
	} {
		if x, f := frac.Node(path); x != want || f != none {
			t.Errorf("Node of %d steps: %v, %v, want %v", len(path), x, f, want)
		}
	}
}

func TestNodeTellsItsFaultsInOrder(t *testing.T) {
	much := strings.Repeat("LR", mostSteps/2)
	for _, c := range []struct {
		path     string
		code, at int
	}{
		{strings.Repeat("R", mostSteps+1), api.ErrMany, 0}, {strings.Repeat("x", mostSteps+1), api.ErrMany, 0}, {much + "L", api.ErrMany, 0}, {much + "x", api.ErrMany, 0}, {"x" + much, api.ErrMany, 0}, {strings.Repeat("R", 1000000), api.ErrMany, 0},
		{strings.Repeat("\u00df", mostSteps/2) + "L", api.ErrMany, 0},
		{"x", api.ErrText, 0}, {"LxR", api.ErrText, 1}, {"LxRy", api.ErrText, 1}, {"l", api.ErrText, 0}, {"RRr", api.ErrText, 2}, {"L R", api.ErrText, 1}, {"LR\n", api.ErrText, 2}, {" ", api.ErrText, 0}, {"\x00", api.ErrText, 0}, {"R\x00L", api.ErrText, 1},
		{"LR\u00df", api.ErrText, 2}, {"\u0141L", api.ErrText, 0}, {"\uff2c", api.ErrText, 0}, {"L\xff", api.ErrText, 1}, {"M", api.ErrText, 0}, {"K", api.ErrText, 0}, {"Q", api.ErrText, 0}, {"S", api.ErrText, 0},
		{strings.Repeat("R", mostSteps-1) + "x", api.ErrText, mostSteps - 1}, {strings.Repeat("x", mostSteps), api.ErrText, 0},
		// a byte that is neither, behind the step that is too great
		{much[1:] + "x", api.ErrText, mostSteps - 1}, {much[:100] + "x" + much[:100], api.ErrText, 100},
		{much, api.ErrMuch, 85}, {much[:86], api.ErrMuch, 85}, {mirrored(much), api.ErrMuch, 85}, {strings.Repeat("R", mostSteps/2) + much[:mostSteps/2], api.ErrMuch, 10066},
	} {
		x, f := frac.Node(c.path)
		if x != (api.Frac{}) || f != faultOf(c.code, c.at) {
			t.Errorf("Node of %d bytes, %.10q..: %v, %v, want %d at %d", len(c.path), c.path, x, f, c.code, c.at)
		}
	}
}

// TestNodeTakesNoOtherByte: at the first place, in the middle, and at the last one.
func TestNodeTakesNoOtherByte(t *testing.T) {
	for b := range 256 {
		for at := range 5 {
			path := []byte("LRRLL")
			path[at] = byte(b)
			want, wantFault := api.Frac{}, faultOf(api.ErrText, at)
			if b == 'L' || b == 'R' {
				want, wantFault = reached(string(path))
			}
			if x, f := frac.Node(string(path)); x != want || f != wantFault {
				t.Errorf("Node(%q): %v, %v, want %v, %v", path, x, f, want, wantFault)
			}
		}
	}
}
