package tests

import (
	"math"
	"slices"
	"strconv"
	"testing"

	"loop.example/g00975/impl"
)

// tableLengths lies on both sides of 24, the longest table that TableNew makes.
var tableLengths = []int{0, 1, 2, 3, 4, 8, 23, 24, 25, 26, 48, 49, 100, 1000}

// setSlots holds slots that SlotOk accepts and slots that it rejects: WithSlot sets them all alike.
var setSlots = []impl.Slot{
	{Page: -1, Rights: 0}, {Page: 5, Rights: 3}, {Page: 0, Rights: 1}, {Page: 0, Rights: 0}, {Page: -1, Rights: 3},
	{Page: -2, Rights: 4}, {Page: 24, Rights: -1}, {Page: math.MaxInt, Rights: math.MinInt}, {Page: math.MinInt, Rights: math.MaxInt},
}

// slotsOfLength returns a table without equal neighbours, so that a slot in the wrong place is noticed; every fifth one maps no page.
func slotsOfLength(n int) []impl.Slot {
	slots := make([]impl.Slot, n)
	for i := range slots {
		slots[i] = impl.Slot{Page: 100 + i, Rights: 1 + i%3}
		if i%5 == 4 {
			slots[i] = impl.Slot{Page: -1}
		}
	}
	return slots
}

// indexesOutside returns indexes that a table of n slots does not have; some of them have low bits that would be an index.
func indexesOutside(n int) []int {
	return []int{-1, -2, -n, -n - 1, -24, -1000, n, n + 1, 2*n + 1, n + 24, n + 1000, n + 1<<32, n - 1<<32 - 1, 1 << 32, -1 << 32, math.MaxInt, math.MaxInt - 1, math.MinInt, math.MinInt + 1}
}

// missing tells whether a table of n slots has no slot at index.
func missing(n, index int) bool {
	return index < 0 || index >= n
}

func TestNoSlot(t *testing.T) {
	if got := impl.NoSlot(); got != (impl.Slot{Page: -1, Rights: 0}) {
		t.Errorf("NoSlot() = %v; want Page -1 and Rights 0", got)
	}
}

func TestSlotOkOfSmallNumbers(t *testing.T) {
	for page := -4; page <= 12; page++ {
		for rights := -4; rights <= 8; rights++ {
			for pages := -4; pages <= 11; pages++ {
				s := impl.Slot{Page: page, Rights: rights}
				mapsNone := page == -1 && rights == 0
				mapsOne := 0 <= page && page <= pages-1 && 1 <= rights && rights <= 3
				if got, want := impl.SlotOk(s, pages), mapsNone || mapsOne; got != want {
					t.Errorf("SlotOk(%v, %d) = %v; want %v", s, pages, got, want)
				}
			}
		}
	}
}

func TestSlotOkOfLargeNumbers(t *testing.T) {
	cases := []struct {
		page, rights, pages int
		want                bool
	}{
		{-1, 0, math.MinInt, true}, {-1, 0, math.MaxInt, true},
		{-1, 1, 8, false}, {-1, 3, math.MaxInt, false}, {-1, math.MinInt, 8, false},
		{0, 1, math.MinInt, false}, {0, 1, math.MinInt + 1, false}, {math.MaxInt, 1, math.MinInt, false}, {math.MinInt, 1, math.MinInt, false},
		{math.MaxInt - 1, 3, math.MaxInt, true}, {math.MaxInt, 3, math.MaxInt, false}, {math.MinInt, 3, math.MaxInt, false},
		{1 << 32, 3, 8, false}, {1<<32 + 1, 3, 1 << 32, false}, {1 << 32, 3, 1<<32 + 1, true},
		{5, math.MaxInt, 8, false}, {5, math.MinInt, 8, false}, {5, 1<<32 + 1, 8, false}, {5, math.MinInt + 3, 8, false}, {5, 257, 8, false},
	}
	for _, c := range cases {
		s := impl.Slot{Page: c.page, Rights: c.rights}
		if got := impl.SlotOk(s, c.pages); got != c.want {
			t.Errorf("SlotOk(%v, %d) = %v; want %v", s, c.pages, got, c.want)
		}
	}
}

func TestTableNewIsClamped(t *testing.T) {
	cases := map[int]int{
		math.MinInt: 0, math.MinInt + 24: 0, -1 << 32: 0, -25: 0, -24: 0, -1: 0, 0: 0, 1: 1, 4: 4, 8: 8, 23: 23, 24: 24,
		25: 24, 26: 24, 48: 24, 1000: 24, 1 << 32: 24, 1<<32 + 3: 24, math.MaxInt: 24,
	}
	for n, want := range cases {
		got := impl.TableNew(n)
		if len(got) != want {
			t.Errorf("TableNew(%d) has %d slots; want %d", n, len(got), want)
		}
		for i, s := range got {
			if s != (impl.Slot{Page: -1, Rights: 0}) {
				t.Errorf("slot %d of TableNew(%d) = %v; want NoSlot", i, n, s)
			}
		}
	}
}

func TestTableNewIsNewMemory(t *testing.T) {
	first := impl.TableNew(24)
	second := impl.TableNew(24)
	short := impl.TableNew(3)
	for _, table := range [][]impl.Slot{first, short} {
		spoil(table)
	}
	if !slices.Equal(second, impl.TableNew(24)) || impl.Mapped(second) != 0 {
		t.Error("a table changes with another one:", second)
	}
	if got := impl.TableNew(24); len(got) != 24 || impl.Mapped(got) != 0 {
		t.Error("TableNew keeps what was written to an earlier table:", got)
	}
}

// spoil overwrites all memory of the table, also the capacity behind it.
func spoil(table []impl.Slot) {
	whole := table[:cap(table)]
	for i := range whole {
		whole[i] = impl.Slot{Page: -77, Rights: -77}
	}
}

func TestTableOk(t *testing.T) {
	for _, n := range tableLengths {
		table := slotsOfLength(n)
		if !impl.TableOk(table, n, 100+n) {
			t.Errorf("TableOk of %d valid slots = false", n)
		}
		for _, size := range []int{n - 1, n + 1, -n - 1, n + 24, n + 1<<32, math.MaxInt, math.MinInt} {
			if impl.TableOk(table, size, 100+n) {
				t.Errorf("TableOk of %d slots with size %d = true", n, size)
			}
		}
		for i := range n {
			for _, bad := range []impl.Slot{{Page: 100 + n, Rights: 3}, {Page: 0, Rights: 0}, {Page: 0, Rights: 4}, {Page: 0, Rights: -1}, {Page: -2, Rights: 1}, {Page: -1, Rights: 1}, {Page: math.MaxInt, Rights: 1}} {
				spoiled := slices.Clone(table)
				spoiled[i] = bad
				if impl.TableOk(spoiled, n, 100+n) {
					t.Errorf("TableOk of %d slots with %v at %d = true", n, bad, i)
				}
			}
		}
	}
}

func TestTableOkOfEmptySlots(t *testing.T) {
	for n := range 25 {
		for _, pages := range []int{math.MinInt, -1, 0, 1, 8, math.MaxInt} {
			if !impl.TableOk(impl.TableNew(n), n, pages) {
				t.Errorf("TableOk(TableNew(%d), %d, %d) = false", n, n, pages)
			}
		}
	}
	if !impl.TableOk(nil, 0, 0) || !impl.TableOk([]impl.Slot{}, 0, 0) || impl.TableOk(nil, 1, 8) || impl.TableOk(nil, -1, 8) {
		t.Error("TableOk of a table without slots")
	}
}

// TestSlotIsReadBack sets every slot of every table and reads back all of its slots.
func TestSlotIsReadBack(t *testing.T) {
	for _, n := range tableLengths {
		table := slotsOfLength(n)
		for page := range n {
			set := setSlots[page%len(setSlots)]
			checkSet(t, table, page, set)
			if n <= 50 {
				for _, other := range setSlots {
					checkSet(t, table, page, other)
				}
			}
		}
	}
}

// checkSet fails unless WithSlot changes the slot at page, which the table has, and no other one.
func checkSet(t *testing.T, table []impl.Slot, page int, set impl.Slot) {
	t.Helper()
	got := impl.WithSlot(table, page, set)
	if len(got) != len(table) {
		t.Fatalf("WithSlot of %d slots at %d has %d slots", len(table), page, len(got))
	}
	for i := range table {
		want := table[i]
		if i == page {
			want = set
		}
		if got[i] != want || impl.SlotAt(got, i) != want {
			t.Errorf("slot %d of %d = %v, read as %v, after setting %d; want %v", i, len(table), got[i], impl.SlotAt(got, i), page, want)
		}
	}
	for _, index := range indexesOutside(len(table)) {
		if missing(len(table), index) && impl.SlotAt(got, index) != impl.NoSlot() {
			t.Errorf("SlotAt of %d slots at %d = %v; want NoSlot", len(table), index, impl.SlotAt(got, index))
		}
	}
}

// TestSlotsSetInTurn sets all slots of one table, in both directions, and expects to read all of them at the end.
func TestSlotsSetInTurn(t *testing.T) {
	for _, n := range tableLengths {
		want := slotsOfLength(n)
		up := make([]impl.Slot, n)
		down := make([]impl.Slot, n)
		for i := range n {
			up = impl.WithSlot(up, i, want[i])
			down = impl.WithSlot(down, n-1-i, want[n-1-i])
		}
		for i := range n {
			if impl.SlotAt(up, i) != want[i] || impl.SlotAt(down, i) != want[i] {
				t.Errorf("slot %d of %d = %v and %v; want %v", i, n, impl.SlotAt(up, i), impl.SlotAt(down, i), want[i])
			}
		}
	}
	twice := impl.WithSlot(impl.WithSlot(impl.TableNew(4), 2, impl.Slot{Page: 5, Rights: 3}), 2, impl.Slot{Page: 6, Rights: 1})
	if impl.SlotAt(twice, 2) != (impl.Slot{Page: 6, Rights: 1}) || impl.Mapped(twice) != 1 {
		t.Error("a slot that was set twice:", twice)
	}
}

func TestIndexOutsideTheTable(t *testing.T) {
	for _, n := range tableLengths {
		table := slotsOfLength(n)
		for _, index := range indexesOutside(n) {
			if !missing(n, index) {
				continue
			}
			if got := impl.SlotAt(table, index); got != impl.NoSlot() {
				t.Errorf("SlotAt of %d slots at %d = %v; want NoSlot", n, index, got)
			}
			for _, s := range setSlots {
				if got := impl.WithSlot(table, index, s); !slices.Equal(got, table) {
					t.Errorf("WithSlot of %d slots at %d with %v is changed: %v", n, index, s, got)
				}
			}
		}
	}
	for _, index := range []int{-1, 0, 1, 24, math.MaxInt, math.MinInt} {
		if got := impl.SlotAt(nil, index); got != impl.NoSlot() {
			t.Errorf("SlotAt(nil, %d) = %v; want NoSlot", index, got)
		}
		if got := impl.WithSlot(nil, index, impl.Slot{Page: 1, Rights: 1}); len(got) != 0 {
			t.Errorf("WithSlot(nil, %d) = %v; want no slots", index, got)
		}
	}
}

// TestIndexInTheSpareCapacity expects the slots behind the end of a slice to be no part of the table.
func TestIndexInTheSpareCapacity(t *testing.T) {
	whole := slotsOfLength(30)
	for _, n := range []int{0, 3, 24, 29} {
		table := whole[:n]
		for index := n; index < len(whole); index++ {
			if got := impl.SlotAt(table, index); got != impl.NoSlot() {
				t.Errorf("SlotAt of %d slots at %d = %v; want NoSlot", n, index, got)
			}
			if got := impl.WithSlot(table, index, impl.Slot{Page: 1, Rights: 1}); !slices.Equal(got, table) {
				t.Errorf("WithSlot of %d slots at %d = %v", n, index, got)
			}
		}
		for _, behind := range whole[n:] {
			if got := impl.UsesOf(table, behind.Page); behind.Page != -1 && len(got) != 0 {
				t.Errorf("UsesOf of %d slots, page %d = %v; want none", n, behind.Page, got)
			}
		}
	}
}

// TestWithSlotSharesNoMemory covers indexes inside and outside of the table, and tables with and without spare capacity.
func TestWithSlotSharesNoMemory(t *testing.T) {
	for _, n := range tableLengths {
		for _, spare := range []int{0, 1, 30} {
			for _, index := range []int{-1, 0, n / 2, n - 1, n, n + 1, math.MaxInt, math.MinInt} {
				checkSharesNothing(t, "WithSlot at "+strconv.Itoa(index), slotsOfLength(n+spare), n, func(table []impl.Slot) []impl.Slot {
					return impl.WithSlot(table, index, impl.Slot{Page: 7, Rights: 2})
				})
			}
		}
	}
}

// checkSharesNothing fails if the call with the first n slots of whole modifies its argument, or if writing to the result or to the argument is seen in the other one.
func checkSharesNothing(t *testing.T, name string, whole []impl.Slot, n int, call func(table []impl.Slot) []impl.Slot) {
	t.Helper()
	before := slices.Clone(whole)
	table := whole[:n]
	got := call(table)
	if !slices.Equal(whole, before) {
		t.Errorf("%s of %d slots, spare %d, modified its argument", name, n, len(whole)-n)
	}
	result := slices.Clone(got)
	spoil(table)
	if !slices.Equal(got, result) {
		t.Errorf("%s of %d slots, spare %d, changes with its argument", name, n, len(whole)-n)
	}
	copy(whole, before)
	spoil(got)
	_ = append(got, impl.Slot{Page: -78, Rights: -78})
	if !slices.Equal(whole, before) {
		t.Errorf("writing to %s of %d slots, spare %d, changes its argument", name, n, len(whole)-n)
	}
}

func TestReadersModifyNothing(t *testing.T) {
	for _, n := range tableLengths {
		whole := slotsOfLength(n + 5)
		before := slices.Clone(whole)
		table := whole[:n]
		impl.TableOk(table, n, 8)
		impl.Mapped(table)
		impl.SameTable(table, before[:n])
		for _, index := range append(indexesOutside(n), 0, n/2, n-1) {
			impl.SlotAt(table, index)
			impl.UsesOf(table, index)
		}
		if !slices.Equal(whole, before) {
			t.Errorf("a table of %d slots was modified by reading it", n)
		}
	}
}

func TestMapped(t *testing.T) {
	for _, n := range tableLengths {
		if got, want := impl.Mapped(slotsOfLength(n)), n-n/5; got != want {
			t.Errorf("Mapped of %d slots = %d; want %d", n, got, want)
		}
		if got := impl.Mapped(make([]impl.Slot, n)); got != n {
			t.Errorf("Mapped of %d zero slots = %d; want all of them", n, got)
		}
		if got := impl.Mapped(impl.TableNew(n)); got != 0 {
			t.Errorf("Mapped(TableNew(%d)) = %d; want 0", n, got)
		}
	}
	// Only Page counts: a page out of range is not -1, and rights do not make -1 a page.
	odd := []impl.Slot{{Page: -2, Rights: 0}, {Page: -1, Rights: 3}, {Page: math.MaxInt, Rights: 9}, {Page: math.MinInt, Rights: -1}, {Page: 0, Rights: 0}, {Page: -1, Rights: -5}}
	if got := impl.Mapped(odd); got != 4 {
		t.Errorf("Mapped(%v) = %d; want 4", odd, got)
	}
	if got := impl.Mapped(nil); got != 0 {
		t.Errorf("Mapped(nil) = %d; want 0", got)
	}
}

func TestUsesOf(t *testing.T) {
	table := []impl.Slot{{Page: 5, Rights: 3}, {Page: -1}, {Page: 2, Rights: 1}, {Page: 5, Rights: 0}, {Page: -2, Rights: 1}, {Page: -1, Rights: 3}, {Page: 5, Rights: 9}, {Page: math.MaxInt}, {Page: 0}}
	cases := map[int][]int{
		5: {0, 3, 6}, 2: {2}, 0: {8}, -1: {1, 5}, -2: {4}, math.MaxInt: {7},
		1: nil, 3: nil, 6: nil, -3: nil, 24: nil, math.MinInt: nil, 1<<32 + 5: nil,
	}
	for page, want := range cases {
		if got := impl.UsesOf(table, page); !slices.Equal(got, want) {
			t.Errorf("UsesOf(table, %d) = %v; want %v", page, got, want)
		}
	}
	first := impl.UsesOf(table, 5)
	first[0] = 99
	if got := impl.UsesOf(table, 5); !slices.Equal(got, []int{0, 3, 6}) || first[0] != 99 {
		t.Errorf("UsesOf after writing to an earlier result = %v", got)
	}
	if got := impl.UsesOf(nil, -1); len(got) != 0 {
		t.Errorf("UsesOf(nil, -1) = %v; want none", got)
	}
}

func TestUsesOfLongTables(t *testing.T) {
	for _, n := range tableLengths {
		all := impl.UsesOf(make([]impl.Slot, n), 0)
		if len(all) != n {
			t.Errorf("UsesOf of %d equal slots has %d indexes", n, len(all))
		}
		for i, index := range all {
			if index != i {
				t.Errorf("UsesOf of %d equal slots has %d at %d", n, index, i)
			}
		}
		table := slotsOfLength(n)
		for i, s := range table {
			if s.Page != -1 && !slices.Equal(impl.UsesOf(table, s.Page), []int{i}) {
				t.Errorf("UsesOf of %d slots, page %d = %v; want %d alone", n, s.Page, impl.UsesOf(table, s.Page), i)
			}
		}
		if got := len(impl.UsesOf(table, -1)); got != n-impl.Mapped(table) {
			t.Errorf("UsesOf of %d slots has %d of Page -1, but Mapped = %d", n, got, impl.Mapped(table))
		}
	}
}

func TestSameTable(t *testing.T) {
	for _, n := range tableLengths {
		table := slotsOfLength(n)
		if !impl.SameTable(table, table) || !impl.SameTable(table, slotsOfLength(n)) {
			t.Errorf("SameTable of equal tables of %d slots = false", n)
		}
		checkDiffer(t, table, append(slices.Clone(table), impl.NoSlot()))
		checkDiffer(t, table, append(slices.Clone(table), impl.Slot{}))
		for i := range n {
			page, rights := slices.Clone(table), slices.Clone(table)
			page[i].Page++
			rights[i].Rights++
			checkDiffer(t, table, page)
			checkDiffer(t, table, rights)
		}
	}
	checkDiffer(t, []impl.Slot{{Page: 1, Rights: 1}, {Page: 2, Rights: 1}}, []impl.Slot{{Page: 2, Rights: 1}, {Page: 1, Rights: 1}})
	checkDiffer(t, []impl.Slot{{Page: 1, Rights: 2}}, []impl.Slot{{Page: 2, Rights: 1}})
	if !impl.SameTable(nil, nil) || !impl.SameTable(nil, []impl.Slot{}) || !impl.SameTable([]impl.Slot{}, nil) {
		t.Error("SameTable of tables without slots = false")
	}
}

// checkDiffer fails if SameTable takes the tables as equal, in either order.
func checkDiffer(t *testing.T, a, b []impl.Slot) {
	t.Helper()
	if impl.SameTable(a, b) || impl.SameTable(b, a) {
		t.Errorf("SameTable(%v, %v) = true", a, b)
	}
}
