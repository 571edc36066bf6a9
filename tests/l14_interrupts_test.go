package tests

import (
	"math"
	"slices"
	"testing"

	"loop.example/g00975/impl"
)

// fewSets are sets of interrupts, numbers around their range, and the extremes; the low bits of some numbers outside the range would be a set.
var fewSets = []int{
	-512, -257, -256, -255, -129, -128, -9, -8, -2, -1, 0, 1, 2, 3, 4, 8, 33, 85, 127, 128, 129, 170, 254, 255, 256, 257, 264, 384, 511, 512, 1000,
	1 << 32, 1<<32 + 1, 1<<32 + 255, 1 << 62, -1 << 32, 255 - 1<<32,
	math.MinInt, math.MinInt + 1, math.MinInt + 128, math.MinInt + 255, math.MaxInt, math.MaxInt - 1, math.MaxInt - 128, math.MaxInt - 255,
}

// fewIrqs are interrupts, numbers around their range, and the extremes; a shift by some numbers outside the range would give the bit of an interrupt.
var fewIrqs = []int{
	-256, -64, -63, -57, -9, -8, -7, -2, -1, 0, 1, 2, 3, 4, 5, 6, 7, 8, 9, 15, 16, 31, 32, 33, 62, 63, 64, 65, 71, 128, 255, 256, 257,
	1 << 32, 1<<32 + 1, 1<<32 + 7, -1 << 32, 7 - 1<<32,
	math.MinInt, math.MinInt + 1, math.MinInt + 7, math.MaxInt, math.MaxInt - 1, math.MaxInt - 7,
}

// setsOutside returns numbers that are no sets of interrupts: all of them near the range, and some far from it.
func setsOutside() []int {
	return slices.DeleteFunc(append(numbersAround(600), fewSets...), func(p int) bool { return !missing(256, p) })
}

// irqsOutside returns numbers that are no interrupts.
func irqsOutside() []int {
	return slices.DeleteFunc(append(numbersAround(300), fewIrqs...), func(n int) bool { return !missing(8, n) })
}

// wantPending returns the interrupts of a set in descending order, without the help of the program. A number that is no set has none.
func wantPending(p int) []int {
	pending := postedBits(p)
	slices.Reverse(pending)
	return pending
}

// setOfIrqs returns the set of these interrupts, each of which is given once.
func setOfIrqs(irqs []int) int {
	p := 0
	for _, n := range irqs {
		p += powers[n]
	}
	return p
}

func wantPostIrq(p, n int) (int, bool) {
	if missing(256, p) || missing(8, n) {
		return p, false
	}
	if slices.Contains(wantPending(p), n) {
		return p, true
	}
	return p + powers[n], true
}

func wantTakeIrq(p int) (int, int, bool) {
	pending := wantPending(p)
	if len(pending) == 0 {
		return p, -1, false
	}
	return setOfIrqs(pending[1:]), pending[0], true
}

func wantSplitIrqs(p, post int) (int, int) {
	if missing(256, post) {
		return 0, 0
	}
	var in, out []int
	for _, n := range wantPending(p) {
		if slices.Contains(wantPending(post), n) {
			in = append(in, n)
		} else {
			out = append(out, n)
		}
	}
	return setOfIrqs(in), setOfIrqs(out)
}

func checkPendOk(t *testing.T, p int) {
	t.Helper()
	if got, want := impl.PendOk(p), p >= 0 && p <= 255; got != want {
		t.Errorf("PendOk(%d) = %v; want %v", p, got, want)
	}
}

func checkPostIrq(t *testing.T, p, n int) {
	t.Helper()
	want, wantOk := wantPostIrq(p, n)
	if got, ok := impl.PostIrq(p, n); got != want || ok != wantOk {
		t.Errorf("PostIrq(%d, %d) = %d, %v; want %d, %v", p, n, got, ok, want, wantOk)
	}
}

func checkTopIrq(t *testing.T, p int) {
	t.Helper()
	_, want, _ := wantTakeIrq(p)
	if got := impl.TopIrq(p); got != want {
		t.Errorf("TopIrq(%d) = %d; want %d", p, got, want)
	}
}

func checkTakeIrq(t *testing.T, p int) {
	t.Helper()
	want, wantN, wantOk := wantTakeIrq(p)
	if got, n, ok := impl.TakeIrq(p); got != want || n != wantN || ok != wantOk {
		t.Errorf("TakeIrq(%d) = %d, %d, %v; want %d, %d, %v", p, got, n, ok, want, wantN, wantOk)
	}
}

func checkIrqCount(t *testing.T, p int) {
	t.Helper()
	if got, want := impl.IrqCount(p), len(wantPending(p)); got != want {
		t.Errorf("IrqCount(%d) = %d; want %d", p, got, want)
	}
}

func checkSplitIrqs(t *testing.T, p, post int) {
	t.Helper()
	wantIn, wantOut := wantSplitIrqs(p, post)
	if in, out := impl.SplitIrqs(p, post); in != wantIn || out != wantOut {
		t.Errorf("SplitIrqs(%d, %d) = %d, %d; want %d, %d", p, post, in, out, wantIn, wantOut)
	}
}

// checkTaken takes interrupts until none is left.
func checkTaken(t *testing.T, p int, want []int) {
	t.Helper()
	rest, taken := p, []int{}
	for range 20 {
		next, n, ok := impl.TakeIrq(rest)
		if !ok {
			break
		}
		rest, taken = next, append(taken, n)
	}
	if !slices.Equal(taken, want) || rest != 0 {
		t.Errorf("%v was taken from %d, and %d is left; want %v and 0", taken, p, rest, want)
	}
	if next, n, ok := impl.TakeIrq(rest); next != rest || n != -1 || ok {
		t.Errorf("TakeIrq(%d) = %d, %d, %v after the last interrupt", rest, next, n, ok)
	}
}

func TestPendOk(t *testing.T) {
	for _, p := range numbersAround(1100) {
		checkPendOk(t, p)
	}
	for _, p := range fewSets {
		checkPendOk(t, p)
	}
}

func TestPendOkBounds(t *testing.T) {
	for _, c := range []struct {
		p    int
		want bool
	}{
		{0, true}, {1, true}, {128, true}, {254, true}, {255, true},
		{-1, false}, {-255, false}, {-256, false}, {256, false}, {257, false}, {511, false}, {512, false}, {1<<32 + 1, false},
		{math.MinInt, false}, {math.MinInt + 1, false}, {math.MaxInt, false},
	} {
		if got := impl.PendOk(c.p); got != c.want {
			t.Errorf("PendOk(%d) = %v; want %v", c.p, got, c.want)
		}
	}
}

func TestPostIrq(t *testing.T) {
	for p := range 256 {
		for _, n := range append(numbersAround(70), fewIrqs...) {
			checkPostIrq(t, p, n)
		}
	}
}

// TestPostIrqSetsOneBit looks at each bit: that of n is set, also if it was set before, and the others are as they were.
func TestPostIrqSetsOneBit(t *testing.T) {
	for p := range 256 {
		for n := range 8 {
			posted, ok := impl.PostIrq(p, n)
			if !ok || !impl.PendOk(posted) {
				t.Errorf("PostIrq(%d, %d) = %d, %v; want a valid set and true", p, n, posted, ok)
			}
			for bit, power := range powers {
				if got, want := posted/power%2, p/power%2; bit == n && got != 1 || bit != n && got != want {
					t.Errorf("PostIrq(%d, %d) = %d, whose bit %d is %d; before it was %d", p, n, posted, bit, got, want)
				}
			}
			if again, ok := impl.PostIrq(posted, n); again != posted || !ok {
				t.Errorf("PostIrq(%d, %d) = %d, %v; the interrupt is pending already", posted, n, again, ok)
			}
		}
	}
}

// TestPostIrqRejects has sets and numbers that are not valid, alone and together.
func TestPostIrqRejects(t *testing.T) {
	numbers := irqsOutside()
	for p := range 256 {
		for _, n := range numbers {
			if got, ok := impl.PostIrq(p, n); got != p || ok {
				t.Errorf("PostIrq(%d, %d) = %d, %v; want the set unchanged and false", p, n, got, ok)
			}
		}
	}
	for _, p := range setsOutside() {
		for _, n := range fewIrqs {
			if got, ok := impl.PostIrq(p, n); got != p || ok {
				t.Errorf("PostIrq(%d, %d) = %d, %v; want the number unchanged and false", p, n, got, ok)
			}
		}
	}
}

func TestPostIrqBounds(t *testing.T) {
	for _, c := range []struct {
		p, n, want int
		ok         bool
	}{
		{0, 0, 1, true}, {0, 7, 128, true}, {1, 5, 33, true}, {33, 5, 33, true}, {33, 0, 33, true}, {127, 7, 255, true}, {254, 0, 255, true}, {255, 0, 255, true}, {255, 7, 255, true}, {170, 0, 171, true},
		{0, -1, 0, false}, {0, 8, 0, false}, {33, -1, 33, false}, {33, 8, 33, false}, {255, -1, 255, false}, {255, 8, 255, false},
		{33, 64, 33, false}, {33, -64, 33, false}, {33, 1<<32 + 1, 33, false}, {33, math.MinInt, 33, false}, {33, math.MaxInt, 33, false},
		{-1, 0, -1, false}, {-1, 7, -1, false}, {-2, 0, -2, false}, {256, 0, 256, false}, {256, 7, 256, false}, {1 << 32, 3, 1 << 32, false},
		{math.MinInt, 0, math.MinInt, false}, {math.MinInt, 7, math.MinInt, false}, {math.MaxInt, 0, math.MaxInt, false}, {math.MaxInt - 1, 0, math.MaxInt - 1, false},
		{-1, -1, -1, false}, {256, 8, 256, false}, {-1, 8, -1, false}, {256, -1, 256, false}, {256, 256, 256, false},
		{math.MinInt, math.MinInt, math.MinInt, false}, {math.MaxInt, math.MaxInt, math.MaxInt, false}, {math.MinInt, math.MaxInt, math.MinInt, false}, {math.MaxInt, math.MinInt, math.MaxInt, false},
	} {
		if got, ok := impl.PostIrq(c.p, c.n); got != c.want || ok != c.ok {
			t.Errorf("PostIrq(%d, %d) = %d, %v; want %d, %v", c.p, c.n, got, ok, c.want, c.ok)
		}
	}
}

func TestTopIrq(t *testing.T) {
	for p := range 256 {
		checkTopIrq(t, p)
	}
	for _, p := range setsOutside() {
		if got := impl.TopIrq(p); got != -1 {
			t.Errorf("TopIrq(%d) = %d; want -1", p, got)
		}
	}
}

// TestTopIrqIsGreatest compares the bits by their values: the greatest one that is set is at most the set, and twice as much is more.
func TestTopIrqIsGreatest(t *testing.T) {
	for p := 1; p < 256; p++ {
		n := impl.TopIrq(p)
		if missing(8, n) || p < powers[n] || p >= 2*powers[n] {
			t.Errorf("TopIrq(%d) = %d", p, n)
		}
	}
}

func TestTopIrqBounds(t *testing.T) {
	for _, c := range []struct{ p, want int }{
		{0, -1}, {1, 0}, {2, 1}, {3, 1}, {4, 2}, {33, 5}, {64, 6}, {127, 6}, {128, 7}, {129, 7}, {255, 7},
		{-1, -1}, {-128, -1}, {-256, -1}, {256, -1}, {257, -1}, {384, -1}, {511, -1}, {1 << 32, -1}, {1<<32 + 1, -1}, {math.MinInt, -1}, {math.MinInt + 1, -1}, {math.MaxInt, -1},
	} {
		if got := impl.TopIrq(c.p); got != c.want {
			t.Errorf("TopIrq(%d) = %d; want %d", c.p, got, c.want)
		}
	}
}

func TestTakeIrq(t *testing.T) {
	for p := range 256 {
		checkTakeIrq(t, p)
		if _, n, _ := impl.TakeIrq(p); n != impl.TopIrq(p) {
			t.Errorf("TakeIrq(%d) takes %d; TopIrq is %d", p, n, impl.TopIrq(p))
		}
	}
	for _, p := range setsOutside() {
		if got, n, ok := impl.TakeIrq(p); got != p || n != -1 || ok {
			t.Errorf("TakeIrq(%d) = %d, %d, %v; want the number unchanged, -1 and false", p, got, n, ok)
		}
	}
}

// TestTakeIrqClearsOneBit looks at each bit: that of the interrupt was set and is not, and the others are as they were.
func TestTakeIrqClearsOneBit(t *testing.T) {
	for p := 1; p < 256; p++ {
		rest, n, ok := impl.TakeIrq(p)
		if !ok || !impl.PendOk(rest) || missing(8, n) {
			t.Errorf("TakeIrq(%d) = %d, %d, %v; want a valid set, an interrupt and true", p, rest, n, ok)
			continue
		}
		for bit, power := range powers {
			before, after := p/power%2, rest/power%2
			if bit == n && (before != 1 || after != 0) || bit != n && after != before {
				t.Errorf("TakeIrq(%d) = %d, %d, %v; bit %d was %d and is %d", p, rest, n, ok, bit, before, after)
			}
		}
	}
}

func TestTakeIrqBounds(t *testing.T) {
	for _, c := range []struct {
		p, want, n int
		ok         bool
	}{
		{0, 0, -1, false},
		{1, 0, 0, true}, {2, 0, 1, true}, {3, 1, 1, true}, {33, 1, 5, true}, {128, 0, 7, true}, {129, 1, 7, true}, {254, 126, 7, true}, {255, 127, 7, true}, {127, 63, 6, true},
		{-1, -1, -1, false}, {-128, -128, -1, false}, {256, 256, -1, false}, {257, 257, -1, false}, {511, 511, -1, false}, {1<<32 + 1, 1<<32 + 1, -1, false},
		{math.MinInt, math.MinInt, -1, false}, {math.MinInt + 1, math.MinInt + 1, -1, false}, {math.MaxInt, math.MaxInt, -1, false},
	} {
		if got, n, ok := impl.TakeIrq(c.p); got != c.want || n != c.n || ok != c.ok {
			t.Errorf("TakeIrq(%d) = %d, %d, %v; want %d, %d, %v", c.p, got, n, ok, c.want, c.n, c.ok)
		}
	}
}

// TestTakenInDescendingOrder is the promise itself, for every valid set: descending order and each once, until none is left.
func TestTakenInDescendingOrder(t *testing.T) {
	for p := range 256 {
		checkTaken(t, p, wantPending(p))
	}
	for _, c := range []struct {
		p    int
		want []int
	}{
		{0, nil}, {1, []int{0}}, {128, []int{7}}, {33, []int{5, 0}}, {129, []int{7, 0}}, {85, []int{6, 4, 2, 0}}, {170, []int{7, 5, 3, 1}}, {255, []int{7, 6, 5, 4, 3, 2, 1, 0}},
	} {
		checkTaken(t, c.p, c.want)
	}
}

// TestTakenWhateverTheOrder posts the interrupts of every set in several orders, some of them twice.
func TestTakenWhateverTheOrder(t *testing.T) {
	for p := range 256 {
		down := wantPending(p)
		up := slices.Clone(down)
		slices.Reverse(up)
		half := len(down) / 2
		for _, order := range [][]int{down, up, slices.Concat(down[half:], down[:half]), slices.Concat(up, down), slices.Concat(up[half:], down)} {
			posted := 0
			for _, n := range order {
				next, ok := impl.PostIrq(posted, n)
				if !ok {
					t.Errorf("PostIrq(%d, %d) is rejected", posted, n)
				}
				posted = next
			}
			if posted != p {
				t.Errorf("%v posted in this order gives %d; want %d", order, posted, p)
			}
			checkTaken(t, posted, down)
		}
	}
}

// TestPostedInBetween takes one interrupt of every set, then posts another one: it is pending once, at the place of its number.
func TestPostedInBetween(t *testing.T) {
	for p := 1; p < 256; p++ {
		for n := range 8 {
			rest, _, _ := impl.TakeIrq(p)
			posted, _ := impl.PostIrq(rest, n)
			want := wantPending(p)[1:]
			if !slices.Contains(want, n) {
				want = append(want, n)
			}
			slices.Sort(want)
			slices.Reverse(want)
			checkTaken(t, posted, want)
		}
	}
}

func TestIrqCount(t *testing.T) {
	for p := range 256 {
		checkIrqCount(t, p)
	}
	for _, p := range setsOutside() {
		if got := impl.IrqCount(p); got != 0 {
			t.Errorf("IrqCount(%d) = %d; want 0", p, got)
		}
	}
}

// TestIrqCountOfTaken has one interrupt less for each that is taken.
func TestIrqCountOfTaken(t *testing.T) {
	for p := 1; p < 256; p++ {
		rest, n, _ := impl.TakeIrq(p)
		if got, want := impl.IrqCount(rest), impl.IrqCount(p)-1; got != want {
			t.Errorf("IrqCount(%d) = %d after %d was taken; want %d", rest, got, n, want)
		}
	}
}

func TestIrqCountBounds(t *testing.T) {
	for _, c := range []struct{ p, want int }{
		{0, 0}, {1, 1}, {2, 1}, {3, 2}, {7, 3}, {33, 2}, {127, 7}, {128, 1}, {129, 2}, {170, 4}, {254, 7}, {255, 8},
		{-1, 0}, {-255, 0}, {256, 0}, {257, 0}, {511, 0}, {1<<32 + 1, 0}, {math.MinInt, 0}, {math.MinInt + 1, 0}, {math.MaxInt, 0},
	} {
		if got := impl.IrqCount(c.p); got != c.want {
			t.Errorf("IrqCount(%d) = %d; want %d", c.p, got, c.want)
		}
	}
}

func TestSplitIrqs(t *testing.T) {
	for p := range 256 {
		for post := range 256 {
			checkSplitIrqs(t, p, post)
		}
	}
}

// TestSplitIrqsHasEachBitOnce looks at each bit: it is in the first set if it is in both, in the second one if only p has it, and otherwise in none.
func TestSplitIrqsHasEachBitOnce(t *testing.T) {
	for p := range 256 {
		for post := range 256 {
			in, out := impl.SplitIrqs(p, post)
			if !impl.PendOk(in) || !impl.PendOk(out) {
				t.Errorf("SplitIrqs(%d, %d) = %d, %d; want valid sets", p, post, in, out)
			}
			for n, power := range powers {
				bit := p / power % 2
				posted := bit * (post / power % 2)
				if in/power%2 != posted || out/power%2 != bit-posted {
					t.Errorf("SplitIrqs(%d, %d) = %d, %d; bit %d is at a wrong place", p, post, in, out, n)
				}
			}
		}
	}
}

// TestSplitIrqsRejects has numbers that are no sets, on either side and on both.
func TestSplitIrqsRejects(t *testing.T) {
	for _, bad := range setsOutside() {
		for _, other := range fewSets {
			for _, pair := range [][2]int{{bad, other}, {other, bad}, {bad, bad}} {
				if in, out := impl.SplitIrqs(pair[0], pair[1]); in != 0 || out != 0 {
					t.Errorf("SplitIrqs(%d, %d) = %d, %d; want 0 and 0", pair[0], pair[1], in, out)
				}
			}
		}
	}
	for valid := range 256 {
		for _, bad := range []int{-1, -2, -256, 256, 257, 511, 1 << 32, math.MinInt, math.MaxInt} {
			checkSplitIrqs(t, valid, bad)
			checkSplitIrqs(t, bad, valid)
		}
	}
}

func TestSplitIrqsBounds(t *testing.T) {
	for _, c := range []struct{ p, post, in, out int }{
		{0, 0, 0, 0}, {0, 255, 0, 0}, {255, 0, 0, 255}, {255, 255, 255, 0}, {7, 5, 5, 2}, {5, 7, 5, 0}, {33, 32, 32, 1}, {33, 1, 1, 32}, {129, 128, 128, 1}, {170, 85, 0, 170}, {1, 254, 0, 1}, {128, 127, 0, 128},
		{-1, 255, 0, 0}, {255, -1, 0, 0}, {-1, -1, 0, 0}, {256, 255, 0, 0}, {255, 256, 0, 0}, {256, 256, 0, 0}, {256, 0, 0, 0}, {0, 256, 0, 0}, {257, 1, 0, 0}, {1, 257, 0, 0},
		{math.MinInt, 255, 0, 0}, {255, math.MinInt, 0, 0}, {math.MaxInt, 255, 0, 0}, {255, math.MaxInt, 0, 0},
		{math.MinInt, math.MinInt, 0, 0}, {math.MaxInt, math.MaxInt, 0, 0}, {math.MinInt, math.MaxInt, 0, 0}, {math.MaxInt, math.MinInt, 0, 0},
	} {
		if in, out := impl.SplitIrqs(c.p, c.post); in != c.in || out != c.out {
			t.Errorf("SplitIrqs(%d, %d) = %d, %d; want %d, %d", c.p, c.post, in, out, c.in, c.out)
		}
	}
}

// TestSplitIrqsFollowsPosts puts into the first set what a control block delivers without an exit.
func TestSplitIrqsFollowsPosts(t *testing.T) {
	for _, c := range validControls() {
		for n, power := range powers {
			in, out := impl.SplitIrqs(power, c.Post)
			if posts := impl.Posts(c, n); (in == power) != posts || (out == power) == posts {
				t.Errorf("SplitIrqs(%d, %d) = %d, %d, but Posts(%v, %d) = %v", power, c.Post, in, out, c, n, posts)
			}
		}
	}
}

// TestInterruptsKeepNoState repeats calls, also after others with different arguments.
func TestInterruptsKeepNoState(t *testing.T) {
	sets := append([]int{}, fewSets...)
	for p := range 256 {
		sets = append(sets, p)
	}
	for range 2 {
		for i, p := range sets {
			for _, x := range []int{p, sets[len(sets)-1-i], p, p} {
				checkPendOk(t, x)
				checkTopIrq(t, x)
				checkTakeIrq(t, x)
				checkIrqCount(t, x)
				for _, n := range fewIrqs {
					checkPostIrq(t, x, n)
				}
				for _, post := range fewSets {
					checkSplitIrqs(t, x, post)
				}
			}
		}
	}
}
