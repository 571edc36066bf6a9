package tests

import (
	"math"
	"slices"
	"testing"

	"loop.example/g00975/impl"
)

func TestWalkCodes(t *testing.T) {
	if impl.WkOk != 0 || impl.WkInner != 1 || impl.WkOuter != 2 {
		t.Error("codes differ from chapter 6:", impl.WkOk, impl.WkInner, impl.WkOuter)
	}
}

// walkedLevel walks through one table without the help of the program.
func walkedLevel(table []impl.Slot, page, need int) (int, bool) {
	if missing(len(table), page) || table[page].Page == -1 || !contained(need, table[page].Rights) {
		return -1, false
	}
	return table[page].Page, true
}

// walked walks through both tables without the help of the program.
func walked(inner, outer []impl.Slot, page, need int) (int, int) {
	middle, ok := walkedLevel(inner, page, need)
	if !ok {
		return -1, 1
	}
	host, ok := walkedLevel(outer, middle, need)
	if !ok {
		return -1, 2
	}
	return host, 0
}

func checkWalkInner(t *testing.T, inner []impl.Slot, page, need int) {
	t.Helper()
	want, permitted := walkedLevel(inner, page, need)
	if got, ok := impl.WalkInner(inner, page, need); got != want || ok != permitted {
		t.Errorf("WalkInner of %d slots, page %d (%v) and need %d = %d, %v; want %d, %v", len(inner), page, impl.SlotAt(inner, page), need, got, ok, want, permitted)
	}
}

func checkWalk(t *testing.T, inner, outer []impl.Slot, page, need int) {
	t.Helper()
	checkWalkInner(t, inner, page, need)
	want, wantCode := walked(inner, outer, page, need)
	if got, code := impl.Walk(inner, outer, page, need); got != want || code != wantCode {
		t.Errorf("Walk of %d and %d slots, page %d (%v) and need %d = %d, %d; want %d, %d", len(inner), len(outer), page, impl.SlotAt(inner, page), need, got, code, want, wantCode)
	}
}

// checkWalksAndFaults compares a walk from every page with the expected one and with Faults.
func checkWalksAndFaults(t *testing.T, inner, outer []impl.Slot, need int) {
	t.Helper()
	codes := impl.Faults(inner, outer, need)
	if len(codes) != len(inner) {
		t.Fatalf("Faults of %d and %d slots has %d codes", len(inner), len(outer), len(codes))
	}
	for page := range inner {
		checkWalk(t, inner, outer, page, need)
		if _, code := impl.Walk(inner, outer, page, need); codes[page] != code {
			t.Errorf("Faults of %d and %d slots and need %d at %d = %d; Walk returns %d", len(inner), len(outer), need, page, codes[page], code)
		}
	}
}

// checkPromise fails unless the walks from all pages succeed exactly where the composition of both tables permits them, and then lead where it leads.
func checkPromise(t *testing.T, inner, outer []impl.Slot) {
	t.Helper()
	composed := impl.Compose(inner, outer)
	for page, s := range composed {
		for need := 1; need <= 3; need++ {
			host, code := impl.Walk(inner, outer, page, need)
			permitted := s.Page != -1 && contained(need, s.Rights)
			if permitted && (host != s.Page || code != impl.WkOk) {
				t.Errorf("page %d (%v) of %d and %d slots with need %d = %d, %d, but both tables compose %v", page, inner[page], len(inner), len(outer), need, host, code, s)
			}
			if !permitted && (host != -1 || code != impl.WkInner && code != impl.WkOuter) {
				t.Errorf("page %d (%v) of %d and %d slots with need %d = %d, %d, but both tables compose %v; want a fault", page, inner[page], len(inner), len(outer), need, host, code, s)
			}
		}
	}
}

func TestWalkSucceedsWhereTheCompositionPermits(t *testing.T) {
	outer := everySlot()
	checkPromise(t, slotsToEveryPage(len(outer)), outer)
	checkPromise(t, outer, outer)
	for _, n := range tableLengths {
		for _, k := range tableLengths {
			checkPromise(t, slotsInto(n, k), slotsInto(k, 12))
			checkPromise(t, slotsInto(n, k), identityTable(k))
			checkPromise(t, identityTable(n), slotsInto(k, 12))
			checkPromise(t, identityTable(n), identityTable(k))
			checkPromise(t, slotsInto(n, k), slices.Repeat([]impl.Slot{{Page: -1}}, k))
			checkPromise(t, slices.Repeat([]impl.Slot{{Page: -1}}, n), identityTable(k))
		}
		checkPromise(t, slotsInto(n, 4), nil)
		checkPromise(t, nil, slotsInto(n, 4))
	}
}

func TestWalk(t *testing.T) {
	inner := []impl.Slot{{Page: 1, Rights: 3}, {Page: 0, Rights: 1}, {Page: 2, Rights: 2}, {Page: 1, Rights: 1}, {Page: 3, Rights: 3}, {Page: -1}, {Page: 2, Rights: 3}, {Page: 4, Rights: 3}, {Page: 5, Rights: 3}}
	outer := []impl.Slot{{Page: -1}, {Page: 4, Rights: 1}, {Page: 7, Rights: 2}, {Page: 0, Rights: 3}, {Page: 6, Rights: 0}}
	cases := []struct{ page, need, host, code int }{
		{0, 1, 4, 0}, {0, 2, -1, 2}, {0, 3, -1, 2},
		{1, 1, -1, 2}, {1, 2, -1, 1}, {1, 3, -1, 1},
		{2, 1, -1, 1}, {2, 2, 7, 0}, {2, 3, -1, 1},
		{3, 1, 4, 0}, {3, 2, -1, 1}, {3, 3, -1, 1},
		{4, 1, 0, 0}, {4, 2, 0, 0}, {4, 3, 0, 0},
		{5, 1, -1, 1}, {5, 2, -1, 1}, {5, 3, -1, 1},
		{6, 1, -1, 2}, {6, 2, 7, 0}, {6, 3, -1, 2},
		{7, 1, -1, 2}, {7, 2, -1, 2}, {7, 3, -1, 2},
		{8, 1, -1, 2}, {8, 2, -1, 2}, {8, 3, -1, 2},
	}
	for _, c := range cases {
		if host, code := impl.Walk(inner, outer, c.page, c.need); host != c.host || code != c.code {
			t.Errorf("Walk(%v, %v, %d, %d) = %d, %d; want %d, %d", inner, outer, c.page, c.need, host, code, c.host, c.code)
		}
	}
}

func TestWalkInner(t *testing.T) {
	inner := []impl.Slot{{Page: 6, Rights: 3}, {Page: 0, Rights: 1}, {Page: 5, Rights: 2}, {Page: 4, Rights: 0}, {Page: -1, Rights: 3}, {Page: -1}}
	want := [][3]int{{6, 6, 6}, {0, -1, -1}, {-1, 5, -1}, {-1, -1, -1}, {-1, -1, -1}, {-1, -1, -1}}
	for page, row := range want {
		for i, next := range row {
			if got, ok := impl.WalkInner(inner, page, i+1); got != next || ok != (next != -1) {
				t.Errorf("WalkInner(%v, %d, %d) = %d, %v; want %d", inner, page, i+1, got, ok, next)
			}
		}
	}
}

// TestWalkOfEverySlot covers each kind of page and of rights at both levels (page -1, rights 0, and numbers that are no rights among them) under each need.
func TestWalkOfEverySlot(t *testing.T) {
	for _, inner := range everySlot() {
		for _, need := range anyRights {
			checkWalkInner(t, []impl.Slot{inner}, 0, need)
		}
	}
	for _, rights := range anyRights {
		for _, outer := range everySlot() {
			inner := []impl.Slot{{Page: -1, Rights: rights}, {Page: 0, Rights: rights}, {Page: 1, Rights: rights}}
			for _, need := range anyRights {
				checkWalksAndFaults(t, inner, []impl.Slot{outer}, need)
			}
		}
	}
}

func TestWalkWithANeedOutOfRange(t *testing.T) {
	table := identityTable(4)
	for _, need := range append([]int{0}, badRights...) {
		for page := -1; page <= 4; page++ {
			if got, ok := impl.WalkInner(table, page, need); got != -1 || ok {
				t.Errorf("WalkInner with page %d and need %d = %d, %v; want -1, false", page, need, got, ok)
			}
			if got, code := impl.Walk(table, table, page, need); got != -1 || code != impl.WkInner {
				t.Errorf("Walk with page %d and need %d = %d, %d; want -1, WkInner", page, need, got, code)
			}
		}
		if got := impl.Faults(table, table, need); !slices.Equal(got, []int{1, 1, 1, 1}) {
			t.Errorf("Faults with need %d = %v; want WkInner alone", need, got)
		}
	}
}

// TestWalkFaultsAtBothLevels expects the inner level's code wherever both levels would refuse.
func TestWalkFaultsAtBothLevels(t *testing.T) {
	refusing := []impl.Slot{{Page: -1}, {Page: -1, Rights: 3}, {Page: 9, Rights: 0}, {Page: 9, Rights: 1}, {Page: 9, Rights: 4}, {Page: 9, Rights: -1}}
	for _, outer := range refusing {
		for _, page := range []int{0, 1, -1, -2, 1000} {
			for _, rights := range []int{0, 1, 4, 6, -1, -2} {
				inner := []impl.Slot{{Page: page, Rights: rights}}
				if got, code := impl.Walk(inner, []impl.Slot{outer}, 0, 2); got != -1 || code != impl.WkInner {
					t.Errorf("%v through %v to write = %d, %d; want -1, WkInner", inner[0], outer, got, code)
				}
			}
		}
	}
	if got, code := impl.Walk(nil, nil, 0, 1); got != -1 || code != impl.WkInner {
		t.Errorf("Walk without tables = %d, %d; want -1, WkInner", got, code)
	}
}

// pagesOutside returns pages that a table of n slots does not have; some of them are in a spare capacity of 30 slots.
func pagesOutside(n int) []int {
	return append(cellsOutside(n), n+2, n+29, n+30)
}

// TestWalkOutsideTheInnerTable also covers slots that lie behind the table, in its spare capacity.
func TestWalkOutsideTheInnerTable(t *testing.T) {
	for _, n := range tableLengths {
		whole := identityTable(n + 30)
		for _, page := range pagesOutside(n) {
			for need := 1; need <= 3; need++ {
				if got, ok := impl.WalkInner(whole[:n], page, need); got != -1 || ok {
					t.Errorf("WalkInner of %d slots and page %d = %d, %v; want -1, false", n, page, got, ok)
				}
				if got, code := impl.Walk(whole[:n], whole, page, need); got != -1 || code != impl.WkInner {
					t.Errorf("Walk of %d slots and page %d = %d, %d; want -1, WkInner", n, page, got, code)
				}
			}
		}
	}
}

// TestWalkOutsideTheOuterTable lets an inner slot lead to each page that the outer table does not have, but its spare capacity may.
func TestWalkOutsideTheOuterTable(t *testing.T) {
	for _, n := range tableLengths {
		outer := identityTable(n + 30)[:n]
		for _, page := range pagesOutside(n) {
			if page == -1 {
				continue
			}
			inner := []impl.Slot{{Page: page, Rights: 3}}
			for need := 1; need <= 3; need++ {
				if got, ok := impl.WalkInner(inner, 0, need); got != page || !ok {
					t.Errorf("WalkInner to page %d = %d, %v; want that page", page, got, ok)
				}
				if got, code := impl.Walk(inner, outer, 0, need); got != -1 || code != impl.WkOuter {
					t.Errorf("Walk through %v and %d slots = %d, %d; want -1, WkOuter", inner[0], n, got, code)
				}
			}
		}
	}
}

// TestWalkKeepsTheOuterPage covers outer pages that no memory has: their numbers are not checked.
func TestWalkKeepsTheOuterPage(t *testing.T) {
	for _, page := range []int{0, 1, 7, 23, 24, 1000, -2, -3, math.MaxInt, math.MinInt, math.MinInt + 1} {
		outer := []impl.Slot{{Page: 5, Rights: 3}, {Page: page, Rights: 3}, {Page: 6, Rights: 3}}
		if got, code := impl.Walk([]impl.Slot{{Page: 1, Rights: 2}}, outer, 0, 2); got != page || code != impl.WkOk {
			t.Errorf("page 1 through %v = %d, %d; want %d, WkOk", outer[1], got, code, page)
		}
	}
}

func TestFaults(t *testing.T) {
	inner := []impl.Slot{{Page: 1, Rights: 3}, {Page: 0, Rights: 1}, {Page: 1, Rights: 1}, {Page: -1}, {Page: 2, Rights: 2}, {Page: 3, Rights: 3}}
	outer := []impl.Slot{{Page: -1}, {Page: 4, Rights: 1}, {Page: 8, Rights: 3}}
	want := map[int][]int{
		1: {0, 2, 0, 1, 1, 2},
		2: {2, 1, 1, 1, 0, 2},
		3: {2, 1, 1, 1, 1, 2},
		0: {1, 1, 1, 1, 1, 1},
		4: {1, 1, 1, 1, 1, 1},
	}
	for need, codes := range want {
		if got := impl.Faults(inner, outer, need); !slices.Equal(got, codes) {
			t.Errorf("Faults(%v, %v, %d) = %v; want %v", inner, outer, need, got, codes)
		}
	}
}

func TestFaultsOfAllLengths(t *testing.T) {
	for _, need := range []int{1, 2, 3, 0, 4, -1, -2, math.MaxInt, math.MinInt} {
		for _, n := range tableLengths {
			for _, k := range []int{0, 1, 4, 24, 49} {
				checkWalksAndFaults(t, slotsInto(n, k), slotsInto(k, 12), need)
			}
			checkWalksAndFaults(t, slotsInto(n, 4), nil, need)
			if len(impl.Faults(nil, identityTable(n), need)) != 0 || len(impl.Faults([]impl.Slot{}, identityTable(n), need)) != 0 {
				t.Errorf("Faults of no slots and %d slots with need %d has codes", n, need)
			}
		}
		if got := impl.Faults(nil, nil, need); len(got) != 0 {
			t.Errorf("Faults without tables with need %d = %v; want no codes", need, got)
		}
	}
}

func TestAddrPageAndAddrCell(t *testing.T) {
	cases := []struct{ addr, page, cell int }{
		{0, 0, 0}, {1, 0, 1}, {2, 0, 2}, {3, 0, 3}, {4, 1, 0}, {5, 1, 1}, {6, 1, 2}, {7, 1, 3}, {8, 2, 0},
		{9, 2, 1}, {10, 2, 2}, {11, 2, 3}, {12, 3, 0}, {13, 3, 1}, {14, 3, 2}, {15, 3, 3}, {16, 4, 0},
		{1 << 32, 1 << 30, 0}, {math.MaxInt, 2305843009213693951, 3}, {math.MaxInt - 3, 2305843009213693951, 0}, {math.MaxInt - 4, 2305843009213693950, 3},
		{-1, -1, -1}, {-2, -1, -1}, {-3, -1, -1}, {-4, -1, -1}, {-5, -1, -1}, {-8, -1, -1}, {-1 << 32, -1, -1}, {math.MinInt, -1, -1}, {math.MinInt + 1, -1, -1},
	}
	for _, c := range cases {
		if page, cell := impl.AddrPage(c.addr), impl.AddrCell(c.addr); page != c.page || cell != c.cell {
			t.Errorf("address %d = page %d, cell %d; want %d, %d", c.addr, page, cell, c.page, c.cell)
		}
	}
}

func TestFaultsAreNewMemory(t *testing.T) {
	inner, outer := slotsInto(24, 8), slotsInto(8, 12)
	want := slices.Clone(impl.Faults(inner, outer, 1))
	spoiled := impl.Faults(inner, outer, 1)
	for i := range spoiled {
		spoiled[i] = 99
	}
	if got := impl.Faults(inner, outer, 1); !slices.Equal(got, want) {
		t.Errorf("Faults keeps what was written to an earlier result: %v", got)
	}
}

func TestWalkingModifiesNothing(t *testing.T) {
	for _, n := range tableLengths {
		inner, outer := slotsInto(n+5, n), slotsInto(n+5, 12)
		wantInner, wantOuter := slices.Clone(inner), slices.Clone(outer)
		for need := -1; need <= 4; need++ {
			impl.Faults(inner[:n], outer[:n], need)
			impl.Faults(inner[:n], inner[:n], need)
			for page := -1; page <= n; page++ {
				impl.WalkInner(inner[:n], page, need)
				impl.Walk(inner[:n], outer[:n], page, need)
			}
		}
		if !slices.Equal(inner, wantInner) || !slices.Equal(outer, wantOuter) {
			t.Errorf("tables of %d slots were modified by walking through them", n)
		}
	}
}
