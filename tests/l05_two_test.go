package tests

import (
	"math"
	"slices"
	"strconv"
	"testing"

	"loop.example/g00975/impl"
)

// anyRights holds the rights 0 to 3 and numbers that are no rights.
var anyRights = append([]int{0, 1, 2, 3}, badRights...)

// everySlot returns a table with each kind of page (none, in range, and outside of any range) under each kind of rights.
func everySlot() []impl.Slot {
	var slots []impl.Slot
	for _, page := range []int{-1, 0, 1, 4, 11, -2, 24, math.MaxInt, math.MinInt} {
		for _, rights := range anyRights {
			slots = append(slots, impl.Slot{Page: page, Rights: rights})
		}
	}
	return slots
}

// slotsToEveryPage returns slots that lead to each page of a table of n slots and to pages that it does not have, under each kind of rights.
func slotsToEveryPage(n int) []impl.Slot {
	pages := indexesOutside(n)
	for page := range n {
		pages = append(pages, page)
	}
	var slots []impl.Slot
	for _, page := range pages {
		for _, rights := range anyRights {
			slots = append(slots, impl.Slot{Page: page, Rights: rights})
		}
	}
	return slots
}

// slotsInto returns n slots whose pages run from -2 to pages+1, and whose rights run from -1 to 4.
func slotsInto(n, pages int) []impl.Slot {
	slots := make([]impl.Slot, n)
	for i := range slots {
		slots[i] = impl.Slot{Page: i%(pages+4) - 2, Rights: i/2%6 - 1}
	}
	return slots
}

// identityTable returns a table that maps each page to itself with both rights.
func identityTable(n int) []impl.Slot {
	slots := make([]impl.Slot, n)
	for i := range slots {
		slots[i] = impl.Slot{Page: i, Rights: 3}
	}
	return slots
}

// commonRights returns the rights that a and b have in common, or 0 if one of them is no rights, without the help of the program.
func commonRights(a, b int) int {
	if a < 0 || a > 3 || b < 0 || b > 3 {
		return 0
	}
	return a & b
}

// slotWith returns the slot that maps the page with the rights, or the one that maps no page if there are none.
func slotWith(page, rights int) impl.Slot {
	if rights == 0 {
		return impl.Slot{Page: -1}
	}
	return impl.Slot{Page: page, Rights: rights}
}

// slotThrough composes a slot without the help of the program.
func slotThrough(inner impl.Slot, outer []impl.Slot) impl.Slot {
	if missing(len(outer), inner.Page) || outer[inner.Page].Page == -1 {
		return impl.Slot{Page: -1}
	}
	return slotWith(outer[inner.Page].Page, commonRights(inner.Rights, outer[inner.Page].Rights))
}

// checkComposition compares every slot of the composition with both tables.
func checkComposition(t *testing.T, inner, outer []impl.Slot) {
	t.Helper()
	got := impl.Compose(inner, outer)
	if len(got) != len(inner) {
		t.Fatalf("Compose of %d and %d slots has %d slots", len(inner), len(outer), len(got))
	}
	for i, s := range inner {
		checkGrantsNoMore(t, got[i], s, outer)
		want := slotThrough(s, outer)
		if one := impl.ComposeSlot(s, outer); got[i] != want || one != want {
			t.Errorf("%v through %d slots = %v, and %v alone; want %v", s, len(outer), got[i], one, want)
		}
	}
}

// checkGrantsNoMore fails unless the composed slot maps no page, or leads to the page of the outer slot with rights that both slots have.
func checkGrantsNoMore(t *testing.T, composed, inner impl.Slot, outer []impl.Slot) {
	t.Helper()
	if composed == (impl.Slot{Page: -1, Rights: 0}) {
		return
	}
	if missing(len(outer), inner.Page) {
		t.Errorf("%v through %d slots = %v, but there is no such page", inner, len(outer), composed)
		return
	}
	s := outer[inner.Page]
	if composed.Page == -1 || composed.Page != s.Page {
		t.Errorf("%v through %v = %v: another page", inner, s, composed)
	}
	if !contained(composed.Rights, inner.Rights) || !contained(composed.Rights, s.Rights) {
		t.Errorf("%v through %v = %v: more rights", inner, s, composed)
	}
}

// contained tells whether few are rights, at least one, and many are rights that include them.
func contained(few, many int) bool {
	return 1 <= few && few <= 3 && 1 <= many && many <= 3 && few|many == many
}

func TestComposeSlotOfAllRights(t *testing.T) {
	for a := range 4 {
		for b := range 4 {
			outer := []impl.Slot{{Page: 9, Rights: 3}, {Page: 4, Rights: b}, {Page: 8, Rights: 3}}
			want := slotWith(4, intersections[a][b])
			if got := impl.ComposeSlot(impl.Slot{Page: 1, Rights: a}, outer); got != want {
				t.Errorf("page 1 with rights %d through page 4 with rights %d = %v; want %v", a, b, got, want)
			}
		}
	}
}

func TestComposeSlotOfBadRights(t *testing.T) {
	for _, bad := range badRights {
		for _, other := range anyRights {
			for _, pair := range [][2]int{{bad, other}, {other, bad}} {
				outer := []impl.Slot{{Page: 9, Rights: 3}, {Page: 4, Rights: pair[1]}}
				if got := impl.ComposeSlot(impl.Slot{Page: 1, Rights: pair[0]}, outer); got != impl.NoSlot() {
					t.Errorf("rights %d through rights %d = %v; want NoSlot", pair[0], pair[1], got)
				}
			}
		}
	}
}

func TestComposeSlotOutsideTheOuterTable(t *testing.T) {
	for _, n := range tableLengths {
		outer := identityTable(n + 30)[:n]
		for _, page := range append(indexesOutside(n), n+2, n+29, n+30) {
			if !missing(n, page) {
				continue
			}
			for _, rights := range anyRights {
				if got := impl.ComposeSlot(impl.Slot{Page: page, Rights: rights}, outer); got != impl.NoSlot() {
					t.Errorf("page %d with rights %d through %d slots = %v; want NoSlot", page, rights, n, got)
				}
			}
		}
	}
	for page := -3; page <= 3; page++ {
		if got := impl.ComposeSlot(impl.Slot{Page: page, Rights: 3}, nil); got != impl.NoSlot() {
			t.Errorf("page %d through no table = %v; want NoSlot", page, got)
		}
	}
}

func TestComposeSlotWithoutPage(t *testing.T) {
	for _, n := range tableLengths {
		outer := identityTable(n)
		for _, rights := range anyRights {
			if got := impl.ComposeSlot(impl.Slot{Page: -1, Rights: rights}, outer); got != impl.NoSlot() {
				t.Errorf("page -1 with rights %d through %d slots = %v; want NoSlot", rights, n, got)
			}
			for page := range n {
				unmapped := slices.Clone(outer)
				unmapped[page] = impl.Slot{Page: -1, Rights: rights}
				if got := impl.ComposeSlot(impl.Slot{Page: page, Rights: 3}, unmapped); got != impl.NoSlot() {
					t.Errorf("page %d of %d through %v = %v; want NoSlot", page, n, unmapped[page], got)
				}
			}
		}
	}
}

// TestComposeSlotKeepsTheOuterPage covers outer pages that no memory has: their numbers are not checked.
func TestComposeSlotKeepsTheOuterPage(t *testing.T) {
	for _, page := range []int{0, 1, 7, 23, 24, 1000, -2, -3, math.MaxInt, math.MinInt, math.MinInt + 1} {
		outer := []impl.Slot{{Page: 5, Rights: 3}, {Page: page, Rights: 3}, {Page: 6, Rights: 3}}
		if got, want := impl.ComposeSlot(impl.Slot{Page: 1, Rights: 2}, outer), (impl.Slot{Page: page, Rights: 2}); got != want {
			t.Errorf("page 1 through %v = %v; want %v", outer[1], got, want)
		}
	}
}

func TestComposeOfEverySlot(t *testing.T) {
	outer := everySlot()
	checkComposition(t, slotsToEveryPage(len(outer)), outer)
	checkComposition(t, outer, outer)
}

func TestComposeOfAllLengths(t *testing.T) {
	for _, n := range tableLengths {
		for _, k := range tableLengths {
			checkComposition(t, slotsInto(n, k), slotsInto(k, 12))
			checkComposition(t, slotsInto(n, k), impl.TableNew(k))
			checkComposition(t, impl.TableNew(n), slotsInto(k, 12))
		}
		if got := impl.Compose(slotsInto(n, 4), nil); !slices.Equal(got, slices.Repeat([]impl.Slot{{Page: -1}}, n)) {
			t.Errorf("Compose of %d slots and nil = %v; want as many NoSlot", n, got)
		}
		if got := impl.Compose(nil, identityTable(n)); len(got) != 0 {
			t.Errorf("Compose of nil and %d slots = %v; want no slots", n, got)
		}
	}
	if got := impl.Compose(nil, nil); len(got) != 0 {
		t.Errorf("Compose(nil, nil) = %v; want no slots", got)
	}
}

// TestComposeWithTheIdentity composes valid tables, which the identity leaves as they are on either side.
func TestComposeWithTheIdentity(t *testing.T) {
	for _, n := range tableLengths {
		table := slotsOfLength(n)
		if got := impl.Compose(table, identityTable(100+n)); !slices.Equal(got, table) {
			t.Errorf("%d slots through the identity = %v", n, got)
		}
		if got := impl.Compose(identityTable(n), table); !slices.Equal(got, table) {
			t.Errorf("the identity through %d slots = %v", n, got)
		}
	}
}

// TestCompositionIsBelow lets the program compare the composition with both tables.
func TestCompositionIsBelow(t *testing.T) {
	for _, n := range tableLengths {
		for _, k := range tableLengths {
			inner, outer := slotsInto(n, k), slotsInto(k, 12)
			composed := impl.Compose(inner, outer)
			behind := make([]impl.Slot, n)
			for i, s := range inner {
				behind[i] = impl.SlotAt(outer, s.Page)
			}
			if !impl.TableBelow(composed, behind) {
				t.Errorf("the composition of %d and %d slots is not below the outer table", n, k)
			}
			if !impl.TableBelow(impl.Compose(inner, identityTable(k)), inner) {
				t.Errorf("the composition of %d slots and the identity of %d is not below the inner table", n, k)
			}
		}
	}
}

func TestBelow(t *testing.T) {
	none := impl.NoSlot()
	slot := func(page, rights int) impl.Slot { return impl.Slot{Page: page, Rights: rights} }
	cases := []struct {
		a, b impl.Slot
		want bool
	}{
		{slot(4, 3), slot(4, 3), true}, {slot(4, 3), slot(5, 3), false}, {slot(5, 3), slot(4, 3), false}, {slot(0, 1), slot(-1, 1), false}, {slot(4, 1), slot(-2, 1), false},
		{slot(4, 1), slot(4, 3), true}, {slot(4, 2), slot(4, 3), true}, {slot(4, 3), slot(4, 1), false}, {slot(4, 3), slot(4, 2), false}, {slot(4, 1), slot(4, 2), false}, {slot(4, 2), slot(4, 1), false},
		{slot(4, 0), slot(4, 1), true}, {slot(4, 0), slot(4, 0), true}, {slot(4, 1), slot(4, 0), false}, {slot(4, 0), slot(5, 3), false},
		{none, none, true}, {none, slot(4, 3), true}, {none, slot(0, 0), true}, {none, slot(4, 4), true}, {none, slot(4, -1), true}, {none, slot(-1, 3), true},
		{slot(4, 3), none, false}, {slot(4, 0), none, false}, {slot(0, 0), none, false}, {slot(-1, 1), none, false}, {slot(-2, 0), none, false},
		{slot(-1, 1), slot(-1, 3), true}, {slot(-1, 3), slot(4, 3), false}, {slot(-1, 3), slot(-1, 1), false},
	}
	for _, c := range cases {
		if got := impl.Below(c.a, c.b); got != c.want {
			t.Errorf("Below(%v, %v) = %v; want %v", c.a, c.b, got, c.want)
		}
	}
}

func TestBelowOfEverySlot(t *testing.T) {
	for _, a := range everySlot() {
		for _, b := range everySlot() {
			few, many := a.Rights, b.Rights
			enough := 0 <= few && few <= 3 && 0 <= many && many <= 3 && few|many == many
			want := a.Page == -1 && a.Rights == 0 || a.Page == b.Page && enough
			if got := impl.Below(a, b); got != want {
				t.Errorf("Below(%v, %v) = %v; want %v", a, b, got, want)
			}
		}
	}
}

func TestTableBelow(t *testing.T) {
	for _, n := range tableLengths {
		table := slotsOfLength(n)
		wide := slices.Clone(table)
		for i := range wide {
			wide[i].Rights = 3
		}
		if !impl.TableBelow(table, table) || !impl.TableBelow(table, wide) || !impl.TableBelow(impl.TableNew(min(n, 24)), table[:min(n, 24)]) {
			t.Errorf("TableBelow of %d slots and slots that permit as much or more = false", n)
		}
		checkBelowAtEachIndex(t, table)
	}
}

// checkBelowAtEachIndex changes one slot at a time, in either table.
func checkBelowAtEachIndex(t *testing.T, table []impl.Slot) {
	t.Helper()
	for i, s := range table {
		for _, change := range []impl.Slot{{Page: 7, Rights: s.Rights}, {Page: s.Page, Rights: 4}, {Page: s.Page, Rights: -1}, {Page: s.Page, Rights: 0}, {Page: s.Page, Rights: 3}, {Page: -1}} {
			other := slices.Clone(table)
			other[i] = change
			if got, want := impl.TableBelow(table, other), impl.Below(s, change); got != want {
				t.Errorf("TableBelow of %d slots and the same with %v for %v at %d = %v", len(table), change, s, i, got)
			}
			if got, want := impl.TableBelow(other, table), impl.Below(change, s); got != want {
				t.Errorf("TableBelow of %d slots with %v for %v at %d and the same = %v", len(table), change, s, i, got)
			}
		}
	}
}

func TestTableBelowOfOtherLengths(t *testing.T) {
	for _, n := range tableLengths {
		for _, k := range tableLengths {
			if n == k {
				continue
			}
			if impl.TableBelow(identityTable(n), identityTable(k)) || impl.TableBelow(make([]impl.Slot, n), make([]impl.Slot, k)) {
				t.Errorf("TableBelow of %d and %d slots = true", n, k)
			}
			if impl.TableBelow(slices.Repeat([]impl.Slot{{Page: -1}}, n), identityTable(k)) {
				t.Errorf("TableBelow of %d NoSlot and %d slots = true", n, k)
			}
		}
	}
	if !impl.TableBelow(nil, nil) || !impl.TableBelow(nil, []impl.Slot{}) || !impl.TableBelow([]impl.Slot{}, nil) {
		t.Error("TableBelow of tables without slots = false")
	}
	if impl.TableBelow(nil, impl.TableNew(1)) || impl.TableBelow(impl.TableNew(1), nil) {
		t.Error("TableBelow of nil and one NoSlot = true")
	}
}

func TestRestrict(t *testing.T) {
	table := []impl.Slot{{Page: 5, Rights: 3}, {Page: 6, Rights: 1}, {Page: 7, Rights: 2}, {Page: 8, Rights: 0}, {Page: -1, Rights: 0}, {Page: 9, Rights: 4}, {Page: 9, Rights: -1}}
	none := impl.NoSlot()
	want := [4][]impl.Slot{
		{none, none, none, none, none, none, none},
		{{Page: 5, Rights: 1}, {Page: 6, Rights: 1}, none, none, none, none, none},
		{{Page: 5, Rights: 2}, none, {Page: 7, Rights: 2}, none, none, none, none},
		{{Page: 5, Rights: 3}, {Page: 6, Rights: 1}, {Page: 7, Rights: 2}, none, none, none, none},
	}
	for rights := range 4 {
		if got := impl.Restrict(table, rights); !slices.Equal(got, want[rights]) {
			t.Errorf("Restrict(%v, %d) = %v; want %v", table, rights, got, want[rights])
		}
	}
	for _, bad := range badRights {
		if got := impl.Restrict(table, bad); !slices.Equal(got, want[0]) {
			t.Errorf("Restrict(%v, %d) = %v; want NoSlot alone", table, bad, got)
		}
	}
}

// TestRestrictOfEverySlot covers slots that SlotOk rejects, too: only their rights are changed.
func TestRestrictOfEverySlot(t *testing.T) {
	table := everySlot()
	for _, rights := range anyRights {
		got := impl.Restrict(table, rights)
		if len(got) != len(table) {
			t.Fatalf("Restrict of %d slots has %d slots", len(table), len(got))
		}
		for i, s := range table {
			if want := slotWith(s.Page, commonRights(s.Rights, rights)); got[i] != want {
				t.Errorf("%v restricted to %d = %v; want %v", s, rights, got[i], want)
			}
		}
		if !impl.TableBelow(got, table) {
			t.Errorf("a table restricted to %d is not below itself", rights)
		}
	}
}

func TestRestrictOfAllLengths(t *testing.T) {
	for _, n := range tableLengths {
		if got := impl.Restrict(slotsOfLength(n), 3); !slices.Equal(got, slotsOfLength(n)) {
			t.Errorf("Restrict of %d valid slots to 3 = %v", n, got)
		}
		if got := impl.Restrict(slotsOfLength(n), 0); len(got) != n || impl.Mapped(got) != 0 {
			t.Errorf("Restrict of %d slots to 0 = %v; want as many NoSlot", n, got)
		}
	}
	for _, rights := range anyRights {
		if len(impl.Restrict(nil, rights)) != 0 || len(impl.Restrict([]impl.Slot{}, rights)) != 0 {
			t.Errorf("Restrict of no slots to %d has slots", rights)
		}
	}
}

// TestRestrictedComposition expects that it makes no difference which of the tables, or their composition, is restricted.
func TestRestrictedComposition(t *testing.T) {
	for _, rights := range anyRights {
		for _, n := range []int{0, 1, 4, 24, 49} {
			for _, k := range []int{0, 1, 8, 25} {
				inner, outer := slotsInto(n, k), slotsInto(k, 12)
				composed := impl.Compose(inner, outer)
				last := impl.Restrict(composed, rights)
				first := impl.Compose(impl.Restrict(inner, rights), outer)
				second := impl.Compose(inner, impl.Restrict(outer, rights))
				if !slices.Equal(first, last) || !slices.Equal(second, last) {
					t.Errorf("%d and %d slots restricted to %d: inner %v, outer %v, both %v", n, k, rights, first, second, last)
				}
				if !impl.TableBelow(last, composed) {
					t.Errorf("%d and %d slots restricted to %d: %v is not below %v", n, k, rights, last, composed)
				}
				if rights == 3 && !slices.Equal(last, composed) {
					t.Errorf("%d and %d slots restricted to 3: %v; want %v", n, k, last, composed)
				}
			}
		}
	}
}

// TestComposedTablesShareNoMemory covers either table and both at once, with and without spare capacity.
func TestComposedTablesShareNoMemory(t *testing.T) {
	for _, n := range tableLengths {
		for _, spare := range []int{0, 1, 30} {
			inner := slotsInto(n+spare, n)
			checkSharesNothing(t, "Compose as inner table", inner, n, func(table []impl.Slot) []impl.Slot { return impl.Compose(table, identityTable(n)) })
			checkSharesNothing(t, "Compose as outer table", inner, n, func(table []impl.Slot) []impl.Slot { return impl.Compose(identityTable(n), table) })
			checkSharesNothing(t, "Compose as both tables", inner, n, func(table []impl.Slot) []impl.Slot { return impl.Compose(table, table) })
			checkSharesNothing(t, "Compose of valid slots", slotsOfLength(n+spare), n, func(table []impl.Slot) []impl.Slot { return impl.Compose(table, identityTable(100+n)) })
			for _, rights := range []int{0, 1, 2, 3, 4, -1} {
				name := "Restrict to " + strconv.Itoa(rights)
				checkSharesNothing(t, name, inner, n, func(table []impl.Slot) []impl.Slot { return impl.Restrict(table, rights) })
				checkSharesNothing(t, name+" of valid slots", slotsOfLength(n+spare), n, func(table []impl.Slot) []impl.Slot { return impl.Restrict(table, rights) })
			}
		}
	}
}

func TestCompositionsAreNewMemory(t *testing.T) {
	inner, outer := slotsInto(24, 8), slotsInto(8, 12)
	wantComposed, wantRestricted := slices.Clone(impl.Compose(inner, outer)), slices.Clone(impl.Restrict(inner, 1))
	spoil(impl.Compose(inner, outer))
	spoil(impl.Restrict(inner, 1))
	if got := impl.Compose(inner, outer); !slices.Equal(got, wantComposed) {
		t.Errorf("Compose keeps what was written to an earlier result: %v", got)
	}
	if got := impl.Restrict(inner, 1); !slices.Equal(got, wantRestricted) {
		t.Errorf("Restrict keeps what was written to an earlier result: %v", got)
	}
}

func TestComposingModifiesNothing(t *testing.T) {
	for _, n := range tableLengths {
		inner, outer := slotsInto(n+5, n), slotsInto(n+5, 12)
		wantInner, wantOuter := slices.Clone(inner), slices.Clone(outer)
		impl.Compose(inner[:n], outer[:n])
		impl.TableBelow(inner[:n], outer[:n])
		impl.TableBelow(inner[:n], inner[:n])
		for _, s := range wantInner {
			impl.ComposeSlot(s, outer[:n])
		}
		for rights := -1; rights <= 4; rights++ {
			impl.Restrict(inner[:n], rights)
		}
		if !slices.Equal(inner, wantInner) || !slices.Equal(outer, wantOuter) {
			t.Errorf("tables of %d slots were modified by composing or comparing them", n)
		}
	}
}
