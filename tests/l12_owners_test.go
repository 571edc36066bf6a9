package tests

import (
	"math"
	"slices"
	"testing"

	"loop.example/g00975/impl"
)

// unions are the unions of two sets of traps, written out by outer and inner.
var unions = [4][4]int{
	{0, 1, 2, 3},
	{1, 1, 3, 3},
	{2, 3, 2, 3},
	{3, 3, 3, 3},
}

// eventOwners are the owners of TrOut and TrHalt as chapter 12 determines them (0 none, 1 inner, 2 outer), written out by outer and inner.
var eventOwners = [4][4][2]int{
	{{0, 0}, {1, 0}, {0, 1}, {1, 1}},
	{{2, 0}, {1, 0}, {2, 1}, {1, 1}},
	{{0, 2}, {1, 2}, {0, 1}, {1, 1}},
	{{2, 2}, {1, 2}, {2, 1}, {1, 1}},
}

// fewTraps are sets of traps, numbers around their range, and the extremes.
var fewTraps = []int{
	-256, -8, -7, -6, -5, -4, -3, -2, -1, 0, 1, 2, 3, 4, 5, 6, 7, 8, 255, 256,
	1 << 32, 1<<32 + 1, 1<<32 + 3, 1 << 62, -1 << 32, 3 - 1<<32,
	math.MinInt, math.MinInt + 1, math.MinInt + 2, math.MinInt + 3, math.MaxInt, math.MaxInt - 1, math.MaxInt - 2,
}

// wantUnion returns the merged traps, without the help of the program.
func wantUnion(outer, inner int) int {
	if missing(4, outer) || missing(4, inner) {
		return -1
	}
	return unions[outer][inner]
}

// wantOwner returns the owner of an event, without the help of the program. A side that has no set of traps wants nothing.
func wantOwner(outer, inner, trap int) int {
	if missing(4, outer) {
		outer = 0
	}
	if missing(4, inner) {
		inner = 0
	}
	switch trap {
	case 1:
		return eventOwners[outer][inner][0]
	case 2:
		return eventOwners[outer][inner][1]
	}
	return 0
}

// postedBits returns the interrupts that a Post in its range contains, without the help of the program.
func postedBits(post int) []int {
	var bits []int
	for n, power := range powers {
		if !missing(256, post) && post/power%2 == 1 {
			bits = append(bits, n)
		}
	}
	return bits
}

// leftOver tells whether a contains something that b does not.
func leftOver(a, b []int) bool {
	return slices.ContainsFunc(a, func(x int) bool { return !slices.Contains(b, x) })
}

// wantGrantsMore compares what the blocks permit, without the help of the program.
func wantGrantsMore(merged, c impl.Ctl) bool {
	return leftOver(trapsOf[c.Traps], trapsOf[merged.Traps]) || leftOver(postedBits(merged.Post), postedBits(c.Post)) || !c.Open && merged.Open
}

func checkMergeTraps(t *testing.T, outer, inner int) {
	t.Helper()
	if got, want := impl.MergeTraps(outer, inner), wantUnion(outer, inner); got != want {
		t.Errorf("MergeTraps(%d, %d) = %d; want %d", outer, inner, got, want)
	}
}

func checkMergedCtl(t *testing.T, outer int, c impl.Ctl) {
	t.Helper()
	want := impl.Ctl{Traps: wantUnion(outer, c.Traps), Post: c.Post, Open: c.Open}
	if got := impl.MergedCtl(outer, c); got != want {
		t.Errorf("MergedCtl(%d, %v) = %v; want %v", outer, c, got, want)
	}
}

func checkOwnerOf(t *testing.T, outer, inner, trap int) {
	t.Helper()
	if got, want := impl.OwnerOf(outer, inner, trap), wantOwner(outer, inner, trap); got != want {
		t.Errorf("OwnerOf(%d, %d, %d) = %d; want %d", outer, inner, trap, got, want)
	}
}

func checkOwnersOf(t *testing.T, outer, inner int) {
	t.Helper()
	want := []int{wantOwner(outer, inner, 1), wantOwner(outer, inner, 2)}
	if got := impl.OwnersOf(outer, inner); !slices.Equal(got, want) {
		t.Errorf("OwnersOf(%d, %d) = %v; want %v", outer, inner, got, want)
	}
}

func checkGrantsMore(t *testing.T, merged, c impl.Ctl) {
	t.Helper()
	if got, want := impl.GrantsMore(merged, c), wantGrantsMore(merged, c); got != want {
		t.Errorf("GrantsMore(%v, %v) = %v; want %v", merged, c, got, want)
	}
}

func TestOwnerNumbers(t *testing.T) {
	if owners := []int{impl.OwNone, impl.OwInner, impl.OwOuter}; !slices.Equal(owners, []int{0, 1, 2}) {
		t.Error("the owners are numbered", owners)
	}
}

func TestMergeTraps(t *testing.T) {
	for _, outer := range numbersAround(20) {
		for _, inner := range numbersAround(20) {
			checkMergeTraps(t, outer, inner)
		}
	}
}

func TestMergeTrapsBounds(t *testing.T) {
	for _, c := range []struct{ outer, inner, want int }{
		{0, 0, 0}, {1, 2, 3}, {2, 1, 3}, {1, 1, 1}, {2, 2, 2}, {3, 3, 3}, {3, 0, 3}, {0, 3, 3},
		{-1, 0, -1}, {0, -1, -1}, {4, 0, -1}, {0, 4, -1}, {-1, -1, -1}, {4, 4, -1}, {-1, 4, -1}, {5, 3, -1}, {3, 5, -1},
		{math.MinInt, 0, -1}, {0, math.MinInt, -1}, {math.MaxInt, 3, -1}, {3, math.MaxInt, -1},
		{math.MinInt, math.MaxInt, -1}, {math.MaxInt, math.MinInt, -1}, {math.MinInt, math.MinInt, -1}, {math.MaxInt, math.MaxInt, -1},
	} {
		if got := impl.MergeTraps(c.outer, c.inner); got != c.want {
			t.Errorf("MergeTraps(%d, %d) = %d; want %d", c.outer, c.inner, got, c.want)
		}
	}
}

// TestMergeTrapsHasBoth asks for each trap: the union has it exactly if one of the sets has it.
func TestMergeTrapsHasBoth(t *testing.T) {
	for outer := range 4 {
		for inner := range 4 {
			merged := impl.MergeTraps(outer, inner)
			for _, trap := range []int{impl.TrOut, impl.TrHalt} {
				if got, want := impl.HasTrap(merged, trap), wantHasTrap(outer, trap) || wantHasTrap(inner, trap); got != want {
					t.Errorf("HasTrap(MergeTraps(%d, %d), %d) = %v; want %v", outer, inner, trap, got, want)
				}
			}
			if impl.MergeTraps(inner, outer) != merged {
				t.Errorf("MergeTraps(%d, %d) = %d, but %d the other way round", outer, inner, merged, impl.MergeTraps(inner, outer))
			}
		}
	}
}

// TestMergedCtl merges valid blocks and blocks of every fault.
func TestMergedCtl(t *testing.T) {
	seen := map[int]bool{}
	for _, c := range append(validControls(), someControls()...) {
		for _, outer := range fewTraps {
			checkMergedCtl(t, outer, c)
		}
		for _, fault := range wantFaults(c) {
			seen[fault] = true
		}
	}
	if len(seen) != 4 {
		t.Error("the blocks have only the faults", seen)
	}
	for _, c := range controlsWith(numbersAround(8), []int{-1, 0, 1, 255, 256}) {
		for outer := -3; outer <= 6; outer++ {
			checkMergedCtl(t, outer, c)
		}
	}
}

func TestMergedCtlBounds(t *testing.T) {
	for _, c := range []struct {
		outer     int
		ctl, want impl.Ctl
	}{
		{2, impl.Ctl{Traps: 1, Post: 8, Open: true}, impl.Ctl{Traps: 3, Post: 8, Open: true}},
		{0, impl.Ctl{Traps: 2}, impl.Ctl{Traps: 2}},
		{3, impl.Ctl{}, impl.Ctl{Traps: 3}},
		{2, impl.Ctl{Post: 1, Open: true}, impl.Ctl{Traps: 2, Post: 1, Open: true}},
		{1, impl.Ctl{Traps: 2, Post: 255}, impl.Ctl{Traps: 3, Post: 255}},
		{1, impl.Ctl{Traps: 1, Post: 300}, impl.Ctl{Traps: 1, Post: 300}},
		{1, impl.Ctl{Traps: 1, Post: math.MinInt, Open: true}, impl.Ctl{Traps: 1, Post: math.MinInt, Open: true}},
		{4, impl.Ctl{Traps: 1, Post: 8, Open: true}, impl.Ctl{Traps: -1, Post: 8, Open: true}},
		{-1, impl.Ctl{Traps: 1, Post: 8}, impl.Ctl{Traps: -1, Post: 8}},
		{1, impl.Ctl{Traps: 4, Post: -8, Open: true}, impl.Ctl{Traps: -1, Post: -8, Open: true}},
		{1, impl.Ctl{Traps: -2, Post: 256}, impl.Ctl{Traps: -1, Post: 256}},
		{math.MaxInt, impl.Ctl{Traps: math.MinInt, Post: 1}, impl.Ctl{Traps: -1, Post: 1}},
	} {
		if got := impl.MergedCtl(c.outer, c.ctl); got != c.want {
			t.Errorf("MergedCtl(%d, %v) = %v; want %v", c.outer, c.ctl, got, c.want)
		}
	}
}

func TestOwnerOf(t *testing.T) {
	for _, outer := range fewTraps {
		for _, inner := range fewTraps {
			for _, trap := range fewTraps {
				checkOwnerOf(t, outer, inner, trap)
			}
		}
	}
}

// TestOwnerOfEverySide takes numbers from further away for one argument at a time.
func TestOwnerOfEverySide(t *testing.T) {
	for _, n := range numbersAround(20) {
		for a := -1; a <= 4; a++ {
			for b := -1; b <= 4; b++ {
				checkOwnerOf(t, n, a, b)
				checkOwnerOf(t, a, n, b)
				checkOwnerOf(t, a, b, n)
			}
		}
	}
}

// TestOwnerOfSharedTraps has traps that both sides want, that one of them wants, and that none wants.
func TestOwnerOfSharedTraps(t *testing.T) {
	for _, c := range []struct{ outer, inner, trap, want int }{
		{1, 1, impl.TrOut, impl.OwInner}, {3, 1, impl.TrOut, impl.OwInner}, {1, 3, impl.TrOut, impl.OwInner}, {3, 3, impl.TrOut, impl.OwInner},
		{2, 2, impl.TrHalt, impl.OwInner}, {3, 2, impl.TrHalt, impl.OwInner}, {2, 3, impl.TrHalt, impl.OwInner}, {3, 3, impl.TrHalt, impl.OwInner},
		{0, 1, impl.TrOut, impl.OwInner}, {2, 1, impl.TrOut, impl.OwInner}, {0, 2, impl.TrHalt, impl.OwInner}, {1, 2, impl.TrHalt, impl.OwInner},
		{1, 0, impl.TrOut, impl.OwOuter}, {3, 2, impl.TrOut, impl.OwOuter}, {2, 0, impl.TrHalt, impl.OwOuter}, {3, 1, impl.TrHalt, impl.OwOuter},
		{0, 0, impl.TrOut, impl.OwNone}, {2, 2, impl.TrOut, impl.OwNone}, {0, 0, impl.TrHalt, impl.OwNone}, {1, 1, impl.TrHalt, impl.OwNone},
		{3, 3, 0, impl.OwNone}, {3, 3, 3, impl.OwNone}, {3, 3, 4, impl.OwNone}, {3, 3, -1, impl.OwNone},
		{3, 3, math.MinInt, impl.OwNone}, {3, 3, math.MaxInt, impl.OwNone},
		{4, 1, impl.TrOut, impl.OwInner}, {-1, 2, impl.TrHalt, impl.OwInner}, {math.MinInt, 3, impl.TrOut, impl.OwInner}, {math.MaxInt, 3, impl.TrHalt, impl.OwInner},
		{1, 5, impl.TrOut, impl.OwOuter}, {2, -1, impl.TrHalt, impl.OwOuter}, {3, math.MinInt, impl.TrOut, impl.OwOuter}, {3, math.MaxInt, impl.TrOut, impl.OwOuter},
		{5, 5, impl.TrOut, impl.OwNone}, {-1, -1, impl.TrHalt, impl.OwNone}, {math.MaxInt, math.MaxInt, impl.TrOut, impl.OwNone}, {math.MinInt, math.MaxInt, impl.TrHalt, impl.OwNone},
	} {
		if got := impl.OwnerOf(c.outer, c.inner, c.trap); got != c.want {
			t.Errorf("OwnerOf(%d, %d, %d) = %d; want %d", c.outer, c.inner, c.trap, got, c.want)
		}
	}
}

// TestOwnerOfMergedTraps has an owner for each trap of the union and for no other one.
func TestOwnerOfMergedTraps(t *testing.T) {
	for outer := range 4 {
		for inner := range 4 {
			for _, trap := range numbersAround(8) {
				owner, has := impl.OwnerOf(outer, inner, trap), impl.HasTrap(impl.MergeTraps(outer, inner), trap)
				if (owner != impl.OwNone) != has {
					t.Errorf("OwnerOf(%d, %d, %d) = %d, but whether the merged traps have it is %v", outer, inner, trap, owner, has)
				}
			}
		}
	}
}

func TestOwnersOf(t *testing.T) {
	for _, outer := range numbersAround(20) {
		for _, inner := range fewTraps {
			checkOwnersOf(t, outer, inner)
			checkOwnersOf(t, inner, outer)
			if got, want := impl.OwnersOf(outer, inner), []int{impl.OwnerOf(outer, inner, impl.TrOut), impl.OwnerOf(outer, inner, impl.TrHalt)}; !slices.Equal(got, want) {
				t.Errorf("OwnersOf(%d, %d) = %v; the owners of the two events are %v", outer, inner, got, want)
			}
		}
	}
}

// TestMergedGrantsNoMore is the promise itself, for all valid blocks.
func TestMergedGrantsNoMore(t *testing.T) {
	for _, c := range validControls() {
		for outer := range 4 {
			merged := impl.MergedCtl(outer, c)
			if impl.GrantsMore(merged, c) || wantGrantsMore(merged, c) {
				t.Errorf("merged with %d, %v becomes %v, which grants more", outer, c, merged)
			}
			if got, want := impl.GrantsMore(c, merged), merged.Traps != c.Traps; got != want {
				t.Errorf("GrantsMore(%v, %v) = %v; want %v", c, merged, got, want)
			}
		}
	}
}

// TestMergedWithNoTrapsGrantsMore has an outer outside its range: the merged traps are -1, which count as 0.
func TestMergedWithNoTrapsGrantsMore(t *testing.T) {
	for _, c := range validControls() {
		for _, outer := range []int{-2, -1, 4, 5, math.MinInt, math.MaxInt} {
			if got, want := impl.GrantsMore(impl.MergedCtl(outer, c), c), c.Traps != 0; got != want {
				t.Errorf("GrantsMore(MergedCtl(%d, %v), the same) = %v; want %v", outer, c, got, want)
			}
		}
	}
}

// TestGrantsMorePairs compares pairs of blocks that differ in one thing or in several of them.
func TestGrantsMorePairs(t *testing.T) {
	for _, c := range []struct {
		merged, ctl impl.Ctl
		want        bool
	}{
		{impl.Ctl{}, impl.Ctl{}, false},
		{impl.Ctl{Traps: 3, Post: 255, Open: true}, impl.Ctl{Traps: 3, Post: 255, Open: true}, false},
		{impl.Ctl{}, impl.Ctl{Traps: 1}, true}, {impl.Ctl{Traps: 1}, impl.Ctl{}, false},
		{impl.Ctl{}, impl.Ctl{Traps: 2}, true}, {impl.Ctl{Traps: 2}, impl.Ctl{}, false},
		{impl.Ctl{Traps: 1}, impl.Ctl{Traps: 2}, true}, {impl.Ctl{Traps: 2}, impl.Ctl{Traps: 1}, true},
		{impl.Ctl{Traps: 1}, impl.Ctl{Traps: 3}, true}, {impl.Ctl{Traps: 3}, impl.Ctl{Traps: 1}, false},
		{impl.Ctl{Post: 8}, impl.Ctl{}, true}, {impl.Ctl{}, impl.Ctl{Post: 8}, false},
		{impl.Ctl{Post: 1}, impl.Ctl{Post: 254}, true}, {impl.Ctl{Post: 128}, impl.Ctl{Post: 127}, true},
		{impl.Ctl{Post: 127}, impl.Ctl{Post: 128}, true}, {impl.Ctl{Post: 8}, impl.Ctl{Post: 255}, false},
		{impl.Ctl{Open: true}, impl.Ctl{}, true}, {impl.Ctl{}, impl.Ctl{Open: true}, false},
		{impl.Ctl{Open: true}, impl.Ctl{Traps: 1}, true}, {impl.Ctl{Traps: 1}, impl.Ctl{Open: true}, false},
		{impl.Ctl{Traps: 3, Open: true}, impl.Ctl{Traps: 1}, true}, {impl.Ctl{Traps: 3, Post: 1}, impl.Ctl{Traps: 1, Open: true}, true},
		{impl.Ctl{Traps: 1, Post: 1}, impl.Ctl{Traps: 3, Post: 255, Open: true}, true},
		{impl.Ctl{Traps: 3, Post: 1}, impl.Ctl{Traps: 1, Post: 255, Open: true}, false},
		{impl.Ctl{Post: 255, Open: true}, impl.Ctl{Traps: 3}, true}, {impl.Ctl{Traps: 3}, impl.Ctl{Post: 255, Open: true}, false},
	} {
		if got := impl.GrantsMore(c.merged, c.ctl); got != c.want {
			t.Errorf("GrantsMore(%v, %v) = %v; want %v", c.merged, c.ctl, got, c.want)
		}
	}
}

// TestGrantsMoreOutsideRanges has Traps or Post outside their ranges, which count as 0 on either side.
func TestGrantsMoreOutsideRanges(t *testing.T) {
	all := impl.Ctl{Traps: 3, Post: 255, Open: true}
	for _, far := range []int{-1, -2, -3, -256, -1 << 32, math.MinInt, math.MinInt + 3, math.MinInt + 255, 256, 257, 511, 1 << 32, 1<<32 + 3, math.MaxInt - 1, math.MaxInt} {
		for _, c := range []struct {
			merged, ctl impl.Ctl
			want        bool
		}{
			{impl.Ctl{Traps: far, Post: 255, Open: true}, all, true},
			{all, impl.Ctl{Traps: far, Post: 255, Open: true}, false},
			{impl.Ctl{Traps: far}, impl.Ctl{}, false},
			{impl.Ctl{}, impl.Ctl{Traps: far}, false},
			{impl.Ctl{Traps: far}, impl.Ctl{Traps: far}, false},
			{impl.Ctl{Traps: far}, impl.Ctl{Traps: 1}, true},
			{impl.Ctl{Traps: far}, impl.Ctl{Traps: 2}, true},
			{impl.Ctl{Traps: 3, Post: far, Open: true}, all, false},
			{all, impl.Ctl{Traps: 3, Post: far, Open: true}, true},
			{impl.Ctl{Post: far}, impl.Ctl{}, false},
			{impl.Ctl{}, impl.Ctl{Post: far}, false},
			{impl.Ctl{Post: far}, impl.Ctl{Post: far}, false},
			{impl.Ctl{Post: 1}, impl.Ctl{Post: far}, true},
			{impl.Ctl{Post: 128}, impl.Ctl{Post: far}, true},
			{impl.Ctl{Traps: far, Post: far}, impl.Ctl{Traps: far, Post: far}, false},
			{impl.Ctl{Traps: far, Post: far, Open: true}, impl.Ctl{Traps: far, Post: far}, true},
			{impl.Ctl{Traps: far, Post: far}, impl.Ctl{Traps: far, Post: far, Open: true}, false},
		} {
			if got := impl.GrantsMore(c.merged, c.ctl); got != c.want {
				t.Errorf("GrantsMore(%v, %v) = %v; want %v", c.merged, c.ctl, got, c.want)
			}
		}
	}
	for traps := 4; traps <= 260; traps++ {
		if !impl.GrantsMore(impl.Ctl{Traps: traps}, impl.Ctl{Traps: 1}) || impl.GrantsMore(impl.Ctl{}, impl.Ctl{Traps: traps}) {
			t.Errorf("the traps %d do not count as 0", traps)
		}
	}
}

// TestGrantsMoreOfOneChange changes one bit of every valid block, in both directions.
func TestGrantsMoreOfOneChange(t *testing.T) {
	for _, c := range validControls() {
		for _, trap := range []int{1, 2} {
			without, with := c, c
			without.Traps, with.Traps = c.Traps&^trap, c.Traps|trap
			checkOneChange(t, without, with)
		}
		for _, power := range powers {
			with, without := c, c
			with.Post, without.Post = c.Post|power, c.Post&^power
			checkOneChange(t, with, without)
		}
		open, shut := c, c
		open.Open, shut.Open = true, false
		checkOneChange(t, open, shut)
	}
}

func checkOneChange(t *testing.T, more, less impl.Ctl) {
	t.Helper()
	if !impl.GrantsMore(more, less) || impl.GrantsMore(less, more) {
		t.Errorf("%v against %v grants more: %v, and the other way round: %v", more, less, impl.GrantsMore(more, less), impl.GrantsMore(less, more))
	}
}

// TestGrantsMore takes all pairs of blocks of every class, and of blocks around the ranges.
func TestGrantsMore(t *testing.T) {
	all := append(someControls(), controlsWith([]int{-1, 0, 1, 2, 3, 4}, []int{-1, 0, 3, 5, 6, 16, 64, 170, 85, 255, 256})...)
	for _, merged := range all {
		for _, c := range all {
			checkGrantsMore(t, merged, c)
		}
	}
}

// TestGrantsMoreOfEveryPost takes all pairs of posts in and around the range.
func TestGrantsMoreOfEveryPost(t *testing.T) {
	for a := -3; a <= 259; a++ {
		for b := -3; b <= 259; b++ {
			checkGrantsMore(t, impl.Ctl{Traps: 1, Post: a, Open: true}, impl.Ctl{Traps: 1, Post: b, Open: true})
		}
	}
}

// TestOwnersAreApart overwrites one result, with the capacity behind it, and looks at another one.
func TestOwnersAreApart(t *testing.T) {
	for _, outer := range fewTraps {
		for _, inner := range fewTraps {
			first, second := impl.OwnersOf(outer, inner), impl.OwnersOf(outer, inner)
			for _, list := range [][]int{first[:cap(first)], append(first, -77, -77)} {
				for i := range list {
					list[i] = -77
				}
			}
			if want := []int{wantOwner(outer, inner, 1), wantOwner(outer, inner, 2)}; !slices.Equal(second, want) {
				t.Errorf("OwnersOf(%d, %d) = %v after a change of another result; want %v", outer, inner, second, want)
			}
			checkOwnersOf(t, outer, inner)
		}
	}
}

// TestOwnersKeepNoState repeats calls after others with different arguments.
func TestOwnersKeepNoState(t *testing.T) {
	controls := someControls()
	for range 3 {
		for i, outer := range fewTraps {
			inner := fewTraps[len(fewTraps)-1-i]
			c, d := controls[i], controls[len(controls)-1-i]
			for range 2 {
				checkMergeTraps(t, outer, inner)
				checkMergedCtl(t, outer, c)
				checkOwnerOf(t, outer, inner, i%4)
				checkOwnersOf(t, outer, inner)
				checkGrantsMore(t, c, d)
				outer, inner, c, d = inner, outer, d, c
			}
		}
	}
}
