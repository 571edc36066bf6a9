package tests

import (
	"math"
	"testing"

	"loop.example/g00975/impl"
)

// badRights lies on both sides of the range 0 to 3; most of its numbers have a low bit set, so that a test of single bits alone would accept them.
var badRights = []int{
	-1, -2, -3, -4, -5, -8, 4, 5, 6, 7, 8, 11, 255, 256, 257, 1 << 31, 1<<31 + 3, 1 << 32, 1<<32 + 1, 1<<32 + 3,
	-1 << 31, -1<<32 + 3, -1<<32 + 1, math.MaxInt - 1, math.MaxInt, math.MinInt, math.MinInt + 1, math.MinInt + 3,
}

// intersections holds, for each two rights of the range 0 to 3, the rights that they have in common.
var intersections = [4][4]int{
	{0, 0, 0, 0},
	{0, 1, 0, 1},
	{0, 0, 2, 2},
	{0, 1, 2, 3},
}

func TestRightsBits(t *testing.T) {
	if impl.RtRead != 1 || impl.RtWrite != 2 {
		t.Error("rights differ from chapter 2:", impl.RtRead, impl.RtWrite)
	}
}

func TestRightsOk(t *testing.T) {
	for r := -300; r <= 300; r++ {
		if got, want := impl.RightsOk(r), r >= 0 && r <= 3; got != want {
			t.Errorf("RightsOk(%d) = %v; want %v", r, got, want)
		}
	}
	for _, r := range badRights {
		if impl.RightsOk(r) {
			t.Errorf("RightsOk(%d) = true; want false", r)
		}
	}
}

func TestBothRightsIsTheIntersection(t *testing.T) {
	for a := range 4 {
		for b := range 4 {
			if got := impl.BothRights(a, b); got != intersections[a][b] {
				t.Errorf("BothRights(%d, %d) = %d; want %d", a, b, got, intersections[a][b])
			}
		}
	}
}

func TestEnoughIsInclusion(t *testing.T) {
	want := [4][4]bool{
		{true, false, false, false},
		{true, true, false, false},
		{true, false, true, false},
		{true, true, true, true},
	}
	for rights := range 4 {
		for need := range 4 {
			if got := impl.Enough(rights, need); got != want[rights][need] {
				t.Errorf("Enough(%d, %d) = %v; want %v", rights, need, got, want[rights][need])
			}
		}
	}
}

// TestRightsAgree ties the two halves of the promise together: need is included exactly if the intersection with it is all of it, and an intersection is the largest set that both of its arguments include.
func TestRightsAgree(t *testing.T) {
	for a := range 4 {
		for b := range 4 {
			both := impl.BothRights(a, b)
			if impl.Enough(a, b) != (both == b) {
				t.Errorf("Enough(%d, %d) = %v, but BothRights = %d", a, b, impl.Enough(a, b), both)
			}
			for c := range 4 {
				inEach := impl.Enough(a, c) && impl.Enough(b, c)
				if impl.Enough(both, c) != inEach {
					t.Errorf("BothRights(%d, %d) = %d; Enough of it for %d = %v; want %v", a, b, both, c, !inEach, inEach)
				}
			}
		}
	}
}

func TestInvalidRights(t *testing.T) {
	for _, bad := range badRights {
		for good := range 4 {
			checkRejectedRights(t, bad, good)
			checkRejectedRights(t, good, bad)
		}
		for _, other := range badRights {
			checkRejectedRights(t, bad, other)
		}
	}
}

// checkRejectedRights fails unless BothRights and Enough treat the pair as invalid.
func checkRejectedRights(t *testing.T, a, b int) {
	t.Helper()
	if got := impl.BothRights(a, b); got != 0 {
		t.Errorf("BothRights(%d, %d) = %d; want 0", a, b, got)
	}
	if impl.Enough(a, b) {
		t.Errorf("Enough(%d, %d) = true; want false", a, b)
	}
}

func TestNeedOf(t *testing.T) {
	if got := impl.NeedOf(true); got != 2 {
		t.Errorf("NeedOf(true) = %d; want 2", got)
	}
	if got := impl.NeedOf(false); got != 1 {
		t.Errorf("NeedOf(false) = %d; want 1", got)
	}
}

func TestRightsText(t *testing.T) {
	for r, want := range []string{"--", "r-", "-w", "rw"} {
		if got := impl.RightsText(r); got != want {
			t.Errorf("RightsText(%d) = %q; want %q", r, got, want)
		}
	}
	for _, r := range badRights {
		if got := impl.RightsText(r); got != "?" {
			t.Errorf("RightsText(%d) = %q; want \"?\"", r, got)
		}
	}
}
