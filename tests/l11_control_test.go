package tests

import (
	"fmt"
	"math"
	"slices"
	"testing"

	"loop.example/g00975/impl"
)

// controlClass is what the faults of a control block depend on.
type controlClass struct {
	traps string
	post  string
	open  bool
}

// controlFaults are the faults as chapter 11 lists them, written out for every class.
var controlFaults = map[controlClass][]int{
	{"other", "none", true}: {}, {"other", "none", false}: {},
	{"other", "some", true}: {}, {"other", "some", false}: {3},
	{"other", "outside", true}: {2}, {"other", "outside", false}: {2, 3},
	{"halt", "none", true}: {}, {"halt", "none", false}: {},
	{"halt", "some", true}: {4}, {"halt", "some", false}: {3, 4},
	{"halt", "outside", true}: {2, 4}, {"halt", "outside", false}: {2, 3, 4},
	{"outside", "none", true}: {1}, {"outside", "none", false}: {1},
	{"outside", "some", true}: {1}, {"outside", "some", false}: {1, 3},
	{"outside", "outside", true}: {1, 2}, {"outside", "outside", false}: {1, 2, 3},
}

// trapsOf are the traps that each valid set of traps contains.
var trapsOf = map[int][]int{0: {}, 1: {1}, 2: {2}, 3: {1, 2}}

// powers are the values of the bits of Post.
var powers = []int{1, 2, 4, 8, 16, 32, 64, 128}

func classOf(c impl.Ctl) controlClass {
	class := controlClass{traps: "other", post: "some", open: c.Open}
	switch {
	case c.Traps == 2:
		class.traps = "halt"
	case c.Traps < 0, c.Traps > 3:
		class.traps = "outside"
	}
	switch {
	case c.Post == 0:
		class.post = "none"
	case c.Post < 0, c.Post > 255:
		class.post = "outside"
	}
	return class
}

// wantFaults returns the faults of a control block, without the help of the program.
func wantFaults(c impl.Ctl) []int {
	return controlFaults[classOf(c)]
}

// wantPosts tells whether a control block posts interrupt n, without the help of the program.
func wantPosts(c impl.Ctl, n int) bool {
	return len(wantFaults(c)) == 0 && !missing(len(powers), n) && c.Post/powers[n]%2 == 1
}

func wantHasTrap(traps, trap int) bool {
	return slices.Contains(trapsOf[traps], trap)
}

func wantCtlText(c impl.Ctl) string {
	return fmt.Sprintf("%d %d %s", c.Traps, c.Post, map[bool]string{true: "open", false: "shut"}[c.Open])
}

// controlsWith returns the control blocks with each of these traps and each of these posts, open and shut.
func controlsWith(traps, posts []int) []impl.Ctl {
	var all []impl.Ctl
	for _, tr := range traps {
		for _, post := range posts {
			all = append(all, impl.Ctl{Traps: tr, Post: post, Open: true}, impl.Ctl{Traps: tr, Post: post, Open: false})
		}
	}
	return all
}

// someControls returns control blocks of every class, with numbers at both ends of every range.
func someControls() []impl.Ctl {
	traps := []int{-2, -1, 0, 1, 2, 3, 4, 5, 6, 1<<32 + 2, math.MinInt, math.MinInt + 2, math.MaxInt}
	posts := []int{-256, -8, -1, 0, 1, 2, 8, 127, 128, 129, 254, 255, 256, 257, 264, 1 << 32, 1<<32 + 8, math.MinInt, math.MinInt + 1, math.MaxInt}
	return controlsWith(traps, posts)
}

// validControls returns all control blocks without a fault.
func validControls() []impl.Ctl {
	all := []impl.Ctl{{Traps: 0}, {Traps: 1}, {Traps: 2}, {Traps: 3}, {Traps: 2, Open: true}}
	for post := range 256 {
		for _, traps := range []int{0, 1, 3} {
			all = append(all, impl.Ctl{Traps: traps, Post: post, Open: true})
		}
	}
	return all
}

func checkFaults(t *testing.T, c impl.Ctl) {
	t.Helper()
	faults, want := impl.CtlFaults(c), wantFaults(c)
	if !slices.Equal(faults, want) {
		t.Errorf("CtlFaults(%v) = %v; want %v", c, faults, want)
	}
	if ok := impl.CtlOk(c); ok != (len(want) == 0) || ok != (len(faults) == 0) {
		t.Errorf("CtlOk(%v) = %v; its faults are %v", c, ok, want)
	}
}

func checkPosts(t *testing.T, c impl.Ctl, n int) {
	t.Helper()
	if got, want := impl.Posts(c, n), wantPosts(c, n); got != want {
		t.Errorf("Posts(%v, %d) = %v; want %v", c, n, got, want)
	}
}

func checkHasTrap(t *testing.T, traps, trap int) {
	t.Helper()
	if got, want := impl.HasTrap(traps, trap), wantHasTrap(traps, trap); got != want {
		t.Errorf("HasTrap(%d, %d) = %v; want %v", traps, trap, got, want)
	}
}

func TestControlNumbers(t *testing.T) {
	if impl.TrOut != 1 || impl.TrHalt != 2 {
		t.Errorf("TrOut = %d, TrHalt = %d; want 1 and 2", impl.TrOut, impl.TrHalt)
	}
	if faults := []int{impl.CfTraps, impl.CfPost, impl.CfClosed, impl.CfHalt}; !slices.Equal(faults, []int{1, 2, 3, 4}) {
		t.Error("the faults are numbered", faults)
	}
}

// TestCtlFaults takes every Traps around its range with every Post around its range, open and shut.
func TestCtlFaults(t *testing.T) {
	for _, c := range controlsWith(numbersAround(8), numbersAround(300)) {
		checkFaults(t, c)
	}
	for _, c := range someControls() {
		checkFaults(t, c)
	}
}

// TestCtlFaultsTogether has every combination of faults that can occur: CfTraps and CfHalt exclude each other.
func TestCtlFaultsTogether(t *testing.T) {
	for _, c := range []struct {
		ctl  impl.Ctl
		want []int
	}{
		{impl.Ctl{}, nil},
		{impl.Ctl{Traps: 3, Post: 255, Open: true}, nil},
		{impl.Ctl{Traps: 4, Post: 255, Open: true}, []int{impl.CfTraps}},
		{impl.Ctl{Traps: 3, Post: 256, Open: true}, []int{impl.CfPost}},
		{impl.Ctl{Traps: 3, Post: 255, Open: false}, []int{impl.CfClosed}},
		{impl.Ctl{Traps: 2, Post: 1, Open: true}, []int{impl.CfHalt}},
		{impl.Ctl{Traps: -1, Post: -1, Open: true}, []int{impl.CfTraps, impl.CfPost}},
		{impl.Ctl{Traps: -1, Post: 1, Open: false}, []int{impl.CfTraps, impl.CfClosed}},
		{impl.Ctl{Traps: 1, Post: -1, Open: false}, []int{impl.CfPost, impl.CfClosed}},
		{impl.Ctl{Traps: 2, Post: -1, Open: true}, []int{impl.CfPost, impl.CfHalt}},
		{impl.Ctl{Traps: 2, Post: 1, Open: false}, []int{impl.CfClosed, impl.CfHalt}},
		{impl.Ctl{Traps: 4, Post: 256, Open: false}, []int{impl.CfTraps, impl.CfPost, impl.CfClosed}},
		{impl.Ctl{Traps: 2, Post: 256, Open: false}, []int{impl.CfPost, impl.CfClosed, impl.CfHalt}},
	} {
		if got := impl.CtlFaults(c.ctl); !slices.Equal(got, c.want) {
			t.Errorf("CtlFaults(%v) = %v; want %v", c.ctl, got, c.want)
		}
		if got := impl.CtlOk(c.ctl); got != (c.want == nil) {
			t.Errorf("CtlOk(%v) = %v; its faults are %v", c.ctl, got, c.want)
		}
	}
}

// TestCtlFaultsCombinations counts the combinations: with and without CfPost and CfClosed, and with CfTraps, with CfHalt or with none of them.
func TestCtlFaultsCombinations(t *testing.T) {
	seen := map[string]bool{}
	for _, c := range someControls() {
		faults := impl.CtlFaults(c)
		for i, f := range faults {
			if f < impl.CfTraps || f > impl.CfHalt || i > 0 && f <= faults[i-1] {
				t.Errorf("CtlFaults(%v) = %v, which are no faults in the order of the document, each once", c, faults)
			}
		}
		seen[fmt.Sprint(faults)] = true
	}
	if len(seen) != 12 {
		t.Errorf("%d combinations of faults; want 12: %v", len(seen), seen)
	}
}

// TestCtlFaultsOfExtremePosts has posts outside the range that are not 0, so that they need an open guest and exits too.
func TestCtlFaultsOfExtremePosts(t *testing.T) {
	for _, post := range []int{-1, -2, -8, -255, -256, -1 << 32, math.MinInt + 1, math.MinInt, 256, 257, 511, 512, 1 << 32, 1 << 62, math.MaxInt - 1, math.MaxInt} {
		for _, c := range []struct {
			traps int
			open  bool
			want  []int
		}{
			{0, true, []int{2}}, {1, true, []int{2}}, {3, true, []int{2}}, {2, true, []int{2, 4}},
			{0, false, []int{2, 3}}, {1, false, []int{2, 3}}, {3, false, []int{2, 3}}, {2, false, []int{2, 3, 4}},
			{-2, true, []int{1, 2}}, {6, true, []int{1, 2}}, {-2, false, []int{1, 2, 3}}, {6, false, []int{1, 2, 3}},
			{math.MinInt, true, []int{1, 2}}, {math.MaxInt, false, []int{1, 2, 3}},
		} {
			ctl := impl.Ctl{Traps: c.traps, Post: post, Open: c.open}
			if got := impl.CtlFaults(ctl); !slices.Equal(got, c.want) {
				t.Errorf("CtlFaults(%v) = %v; want %v", ctl, got, c.want)
			}
		}
	}
}

// TestCtlHaltAlone gives traps that contain TrHalt or look like it: only TrHalt alone is the fault.
func TestCtlHaltAlone(t *testing.T) {
	for _, traps := range numbersAround(300) {
		for _, post := range []int{1, 2, 128, 255, 256, -1, math.MinInt, math.MaxInt} {
			for _, open := range []bool{true, false} {
				c := impl.Ctl{Traps: traps, Post: post, Open: open}
				if got := slices.Contains(impl.CtlFaults(c), impl.CfHalt); got != (traps == 2) {
					t.Errorf("CfHalt in CtlFaults(%v) = %v", c, got)
				}
			}
		}
		for _, c := range controlsWith([]int{traps}, []int{0}) {
			if slices.Contains(impl.CtlFaults(c), impl.CfHalt) {
				t.Errorf("CtlFaults(%v) contains CfHalt, but it posts nothing", c)
			}
		}
	}
}

// TestControlIsValidWithoutFault is the promise itself, for the blocks that are valid and for all others.
func TestControlIsValidWithoutFault(t *testing.T) {
	valid := map[impl.Ctl]bool{}
	for _, c := range validControls() {
		if faults := impl.CtlFaults(c); !impl.CtlOk(c) || len(faults) > 0 {
			t.Errorf("%v has the faults %v, and CtlOk is %v", c, faults, impl.CtlOk(c))
		}
		valid[c] = true
	}
	for _, c := range controlsWith(numbersAround(8), numbersAround(300)) {
		if faults := impl.CtlFaults(c); !valid[c] && (impl.CtlOk(c) || len(faults) == 0) {
			t.Errorf("%v has the faults %v, and CtlOk is %v", c, faults, impl.CtlOk(c))
		}
	}
}

func TestHasTrap(t *testing.T) {
	for _, traps := range numbersAround(20) {
		for _, trap := range numbersAround(20) {
			checkHasTrap(t, traps, trap)
		}
	}
}

func TestHasTrapBounds(t *testing.T) {
	want := [4][5]bool{
		{false, false, false, false, false},
		{false, true, false, false, false},
		{false, false, true, false, false},
		{false, true, true, false, false},
	}
	for traps, row := range want {
		for trap, has := range row {
			if got := impl.HasTrap(traps, trap); got != has {
				t.Errorf("HasTrap(%d, %d) = %v; want %v", traps, trap, got, has)
			}
		}
	}
	for _, traps := range []int{-1, -2, -3, 4, 5, 6, 7, 255, 1<<32 + 1, 1<<32 + 3, math.MinInt, math.MinInt + 3, math.MaxInt} {
		for _, trap := range []int{impl.TrOut, impl.TrHalt, 0, 3, -1, math.MinInt, math.MaxInt} {
			if impl.HasTrap(traps, trap) {
				t.Errorf("HasTrap of the traps %d, which are none, and %d = true", traps, trap)
			}
		}
	}
	for traps := range 4 {
		for _, trap := range []int{-1, -2, -3, 0, 3, 4, 5, 6, 7, 1<<32 + 1, 1<<32 + 2, math.MinInt, math.MinInt + 1, math.MaxInt} {
			if impl.HasTrap(traps, trap) {
				t.Errorf("HasTrap of the traps %d and %d, which is no trap, = true", traps, trap)
			}
		}
	}
}

// TestPosts takes every interrupt around the range with the valid blocks of every Post.
func TestPosts(t *testing.T) {
	numbers := append(numbersAround(20), 31, 32, 33, 63, 64, 65, 67, 71, 127, 128, 256, 259)
	for _, c := range validControls() {
		sum := 0
		for _, n := range numbers {
			checkPosts(t, c, n)
		}
		for n, power := range powers {
			if impl.Posts(c, n) {
				sum += power
			}
		}
		if sum != c.Post {
			t.Errorf("the interrupts that %v posts have the sum %d", c, sum)
		}
	}
}

// TestPostsOfFaultyControls expects no interrupt of a block with a fault, also where its bits are set.
func TestPostsOfFaultyControls(t *testing.T) {
	for _, c := range controlsWith([]int{-1, 0, 1, 2, 3, 4, math.MinInt, math.MaxInt}, numbersAround(300)) {
		for n := -2; n <= 9; n++ {
			checkPosts(t, c, n)
		}
	}
	for _, c := range someControls() {
		for _, n := range numbersAround(20) {
			checkPosts(t, c, n)
		}
	}
	for _, c := range []impl.Ctl{
		{Traps: 4, Post: 255, Open: true}, {Traps: -1, Post: 255, Open: true},
		{Traps: 1, Post: 511, Open: true}, {Traps: 1, Post: -1, Open: true},
		{Traps: 1, Post: 255, Open: false}, {Traps: 2, Post: 255, Open: true},
		{Traps: 2, Post: 511, Open: false}, {Traps: 4, Post: -1, Open: false},
	} {
		for _, n := range numbersAround(70) {
			if impl.Posts(c, n) {
				t.Errorf("Posts(%v, %d) = true, but the block has the faults %v", c, n, wantFaults(c))
			}
		}
	}
}

func TestCtlText(t *testing.T) {
	for _, c := range []struct {
		ctl  impl.Ctl
		want string
	}{
		{impl.Ctl{}, "0 0 shut"},
		{impl.Ctl{Open: true}, "0 0 open"},
		{impl.Ctl{Traps: 1, Post: 8, Open: true}, "1 8 open"},
		{impl.Ctl{Traps: 3, Post: 255, Open: true}, "3 255 open"},
		{impl.Ctl{Traps: 2}, "2 0 shut"},
		{impl.Ctl{Traps: 4, Post: 256}, "4 256 shut"},
		{impl.Ctl{Traps: -1, Post: -20, Open: true}, "-1 -20 open"},
		{impl.Ctl{Traps: math.MinInt, Post: math.MaxInt}, "-9223372036854775808 9223372036854775807 shut"},
		{impl.Ctl{Traps: math.MaxInt, Post: math.MinInt, Open: true}, "9223372036854775807 -9223372036854775808 open"},
	} {
		if got := impl.CtlText(c.ctl); got != c.want {
			t.Errorf("CtlText(%v) = %q; want %q", c.ctl, got, c.want)
		}
	}
	for _, c := range append(append(someControls(), validControls()...), controlsWith(numbersAround(4), numbersAround(4))...) {
		if got, want := impl.CtlText(c), wantCtlText(c); got != want {
			t.Errorf("CtlText(%v) = %q; want %q", c, got, want)
		}
	}
}

// TestCtlFaultsAreApart overwrites one result, with the capacity behind it, and looks at another one.
func TestCtlFaultsAreApart(t *testing.T) {
	for _, c := range someControls() {
		first, second := impl.CtlFaults(c), impl.CtlFaults(c)
		for _, list := range [][]int{first[:cap(first)], append(first, -77, -77)} {
			for i := range list {
				list[i] = -77
			}
		}
		if want := wantFaults(c); !slices.Equal(second, want) {
			t.Errorf("CtlFaults(%v) = %v after a change of another result; want %v", c, second, want)
		}
		checkFaults(t, c)
	}
}

// TestControlKeepsNoState repeats calls after others with different arguments.
func TestControlKeepsNoState(t *testing.T) {
	all := someControls()
	for range 3 {
		for i, c := range all {
			for _, d := range []impl.Ctl{c, all[len(all)-1-i], c} {
				checkFaults(t, d)
				checkPosts(t, d, i%9)
				checkHasTrap(t, d.Traps, i%4)
				if got, want := impl.CtlText(d), wantCtlText(d); got != want {
					t.Errorf("CtlText(%v) = %q; want %q", d, got, want)
				}
			}
		}
	}
}
