package tests

import (
	"math"
	"slices"
	"strconv"
	"testing"

	"loop.example/g00975/impl"
)

// keptLengths are the lengths that Known, Slots and inner are given in every combination.
var keptLengths = []int{0, 1, 2, 3, 5}

// cloneKept copies a shadow table without the help of the program.
func cloneKept(k impl.Kept) impl.Kept {
	return impl.Kept{Known: slices.Clone(k.Known), Slots: slices.Clone(k.Slots)}
}

func sameKept(a, b impl.Kept) bool {
	return slices.Equal(a.Known, b.Known) && slices.Equal(a.Slots, b.Slots)
}

// spoilKept overwrites all memory of a shadow table, also the capacity behind its slices.
func spoilKept(k impl.Kept) {
	known := k.Known[:cap(k.Known)]
	for i := range known {
		known[i] = !known[i]
	}
	spoil(k.Slots[:cap(k.Slots)])
}

// unevenKept returns a shadow table that has equal neighbours neither in Known nor in Slots. With offset 0 or 1 the even or the odd pages are known.
func unevenKept(known, slots, offset int) impl.Kept {
	k := impl.Kept{Known: make([]bool, known), Slots: make([]impl.Slot, slots)}
	for i := range k.Known {
		k.Known[i] = i%2 == offset
	}
	for i := range k.Slots {
		k.Slots[i] = impl.Slot{Page: 300 + i, Rights: 1 + i%3}
	}
	return k
}

// composedKept returns the shadow table of inner and outer in which the even or the odd pages are known, without the help of the program.
func composedKept(inner, outer []impl.Slot, offset int) impl.Kept {
	k := unevenKept(len(inner), len(inner), offset)
	for i, s := range inner {
		k.Slots[i] = impl.Slot{Page: -1}
		if k.Known[i] {
			k.Slots[i] = slotThrough(s, outer)
		}
	}
	return k
}

// keptMissing tells whether Known or Slots has no element at the page.
func keptMissing(k impl.Kept, page int) bool {
	return missing(len(k.Known), page) || missing(len(k.Slots), page)
}

// The functions wantFill to wantForgetAll do what chapter 7 says, without the help of the program.

func wantFill(k impl.Kept, inner, outer []impl.Slot, page int) impl.Kept {
	want := cloneKept(k)
	if !keptMissing(k, page) && !missing(len(inner), page) {
		want.Known[page] = true
		want.Slots[page] = slotThrough(inner[page], outer)
	}
	return want
}

func wantForget(k impl.Kept, page int) impl.Kept {
	want := cloneKept(k)
	if !keptMissing(k, page) {
		want.Known[page] = false
		want.Slots[page] = impl.Slot{Page: -1, Rights: 0}
	}
	return want
}

func wantForgetUses(k impl.Kept, inner []impl.Slot, page int) impl.Kept {
	want := cloneKept(k)
	for i, s := range inner {
		if s.Page == page {
			want = wantForget(want, i)
		}
	}
	return want
}

func wantForgetAll(k impl.Kept) impl.Kept {
	want := cloneKept(k)
	for i := range k.Known {
		want = wantForget(want, i)
	}
	return want
}

// keptStep is one change of a shadow table: the call, and what it is expected to return.
type keptStep struct {
	name string
	call func(k impl.Kept, inner, outer []impl.Slot) impl.Kept
	want func(k impl.Kept, inner, outer []impl.Slot) impl.Kept
}

func fillStep(page int) keptStep {
	return keptStep{"Fill at " + strconv.Itoa(page),
		func(k impl.Kept, inner, outer []impl.Slot) impl.Kept { return impl.Fill(k, inner, outer, page) },
		func(k impl.Kept, inner, outer []impl.Slot) impl.Kept { return wantFill(k, inner, outer, page) }}
}

func forgetStep(page int) keptStep {
	return keptStep{"Forget at " + strconv.Itoa(page),
		func(k impl.Kept, _, _ []impl.Slot) impl.Kept { return impl.Forget(k, page) },
		func(k impl.Kept, _, _ []impl.Slot) impl.Kept { return wantForget(k, page) }}
}

func forgetUsesStep(page int) keptStep {
	return keptStep{"ForgetUses of " + strconv.Itoa(page),
		func(k impl.Kept, inner, _ []impl.Slot) impl.Kept { return impl.ForgetUses(k, inner, page) },
		func(k impl.Kept, inner, _ []impl.Slot) impl.Kept { return wantForgetUses(k, inner, page) }}
}

func forgetAllStep() keptStep {
	return keptStep{"ForgetAll",
		func(k impl.Kept, _, _ []impl.Slot) impl.Kept { return impl.ForgetAll(k) },
		func(k impl.Kept, _, _ []impl.Slot) impl.Kept { return wantForgetAll(k) }}
}

// stepsAt returns each kind of step with the page.
func stepsAt(page int) []keptStep {
	return []keptStep{fillStep(page), forgetStep(page), forgetUsesStep(page), forgetAllStep()}
}

// slotsWithSpare and knownWithSpare return the elements in front of a spare capacity that holds others, and that capacity with them.
func slotsWithSpare(slots []impl.Slot, spare int) (front, whole []impl.Slot) {
	whole = append(slices.Clone(slots), slotsOfLength(spare)...)
	return whole[:len(slots)], whole
}

func knownWithSpare(known []bool, spare int) (front, whole []bool) {
	whole = append(slices.Clone(known), make([]bool, spare)...)
	return whole[:len(known)], whole
}

// keptArguments are the arguments of a step with all of the memory behind them.
type keptArguments struct {
	kept, wholeKept                      impl.Kept
	inner, outer, wholeInner, wholeOuter []impl.Slot
}

func keptArgumentsOf(k impl.Kept, inner, outer []impl.Slot, spare int) keptArguments {
	var a keptArguments
	a.kept.Known, a.wholeKept.Known = knownWithSpare(k.Known, spare)
	a.kept.Slots, a.wholeKept.Slots = slotsWithSpare(k.Slots, spare)
	a.inner, a.wholeInner = slotsWithSpare(inner, spare)
	a.outer, a.wholeOuter = slotsWithSpare(outer, spare)
	return a
}

func sameArguments(a, b keptArguments) bool {
	return sameKept(a.wholeKept, b.wholeKept) && slices.Equal(a.wholeInner, b.wholeInner) && slices.Equal(a.wholeOuter, b.wholeOuter)
}

// checkKeptStep returns what the step returns. It fails if that is not what is expected, if the arguments or the spare capacity behind them were modified, or if the result shares memory with them.
func checkKeptStep(t *testing.T, step keptStep, k impl.Kept, inner, outer []impl.Slot) impl.Kept {
	t.Helper()
	want := step.want(k, inner, outer)
	for _, spare := range []int{0, 3} {
		given, before := keptArgumentsOf(k, inner, outer, spare), keptArgumentsOf(k, inner, outer, spare)
		got := step.call(given.kept, given.inner, given.outer)
		if !sameKept(got, want) {
			t.Errorf("%s of %v, inner %v, outer %v = %v; want %v", step.name, k, inner, outer, got, want)
		}
		if !sameArguments(given, before) {
			t.Errorf("%s of %v, inner %v, outer %v, spare %d, modified an argument", step.name, k, inner, outer, spare)
		}
		result := cloneKept(got)
		spoilKept(got)
		if !sameArguments(given, before) {
			t.Errorf("writing to %s of %v, inner %v, outer %v, spare %d, changes an argument", step.name, k, inner, outer, spare)
		}
		got = step.call(given.kept, given.inner, given.outer)
		spoilKept(given.wholeKept)
		spoil(given.wholeInner)
		spoil(given.wholeOuter)
		if !sameKept(got, result) {
			t.Errorf("%s of %v, inner %v, outer %v, spare %d, changes with an argument, or from call to call", step.name, k, inner, outer, spare)
		}
	}
	return want
}

// checkAsked compares Ask and KnownIn with the fields of k.
func checkAsked(t *testing.T, k impl.Kept) {
	t.Helper()
	before := cloneKept(k)
	count := 0
	for _, known := range k.Known {
		if known {
			count++
		}
	}
	if got := impl.KnownIn(k); got != count {
		t.Errorf("KnownIn(%v) = %d; want %d", k, got, count)
	}
	pages := append(cellsOutside(len(k.Known)), cellsOutside(len(k.Slots))...)
	for page := range max(len(k.Known), len(k.Slots)) {
		pages = append(pages, page)
	}
	for _, page := range pages {
		want, known := impl.Slot{Page: -1, Rights: 0}, false
		if !keptMissing(k, page) && k.Known[page] {
			want, known = k.Slots[page], true
		}
		if got, ok := impl.Ask(k, page); got != want || ok != known {
			t.Errorf("Ask(%v, %d) = %v, %v; want %v, %v", k, page, got, ok, want, known)
		}
	}
	if !sameKept(k, before) {
		t.Errorf("%v was modified by asking it", before)
	}
}

// checkAgrees fails unless k is a shadow table of both tables, and each of its known slots is the composed one.
func checkAgrees(t *testing.T, k impl.Kept, inner, outer []impl.Slot) {
	t.Helper()
	checkAsked(t, k)
	if !impl.KeptOk(k, inner, outer) {
		t.Errorf("KeptOk(%v, %v, %v) = false", k, inner, outer)
	}
	composed := impl.Compose(inner, outer)
	for page, s := range inner {
		got, ok := impl.Ask(k, page)
		if ok && (got != composed[page] || got != impl.ComposeSlot(s, outer) || got != slotThrough(s, outer)) {
			t.Errorf("Ask of page %d (%v) = %v; want %v", page, s, got, slotThrough(s, outer))
		}
	}
}

// tablePairs returns tables of different lengths, with outer tables that are shorter and longer than the pages that they are asked for.
func tablePairs() [][2][]impl.Slot {
	pairs := [][2][]impl.Slot{{nil, nil}, {nil, identityTable(4)}, {slotsInto(9, 4), nil}}
	for _, n := range []int{0, 1, 2, 3, 4, 8, 24, 25, 49} {
		for _, k := range []int{0, 1, 3, 8, 24, 49} {
			pairs = append(pairs, [2][]impl.Slot{slotsInto(n, k), slotsInto(k, 12)}, [2][]impl.Slot{identityTable(n), identityTable(k)}, [2][]impl.Slot{slotsInto(n, 8), slotsInto(k, 12)})
		}
	}
	return pairs
}

func TestKeptNew(t *testing.T) {
	lengths := map[int]int{
		0: 0, 1: 1, 2: 2, 3: 3, 23: 23, 24: 24, 25: 24, 26: 24, 48: 24, 1000: 24, 1 << 32: 24, 1<<32 + 5: 24, math.MaxInt - 1: 24, math.MaxInt: 24,
		-1: 0, -2: 0, -24: 0, -25: 0, -1000: 0, -1 << 32: 0, -1<<32 + 5: 0, math.MinInt: 0, math.MinInt + 1: 0, math.MinInt + 7: 0,
	}
	for n, want := range lengths {
		got := impl.KeptNew(n)
		if !slices.Equal(got.Known, make([]bool, want)) || !slices.Equal(got.Slots, slices.Repeat([]impl.Slot{{Page: -1}}, want)) {
			t.Errorf("KeptNew(%d) = %v; want %d slots that are not known", n, got, want)
		}
		checkAgrees(t, got, identityTable(want), identityTable(want))
		spoilKept(got)
		if again := impl.KeptNew(n); impl.KnownIn(again) != 0 || impl.Mapped(again.Slots) != 0 {
			t.Errorf("KeptNew(%d) keeps what was written to an earlier result: %v", n, again)
		}
	}
}

// emptyKept returns a shadow table of any length, since KeptNew makes none with more than 24 slots.
func emptyKept(n int) impl.Kept {
	return impl.Kept{Known: make([]bool, n), Slots: slices.Repeat([]impl.Slot{{Page: -1}}, n)}
}

// TestFillAgreesWithTheComposition fills each page of each inner table in turn.
func TestFillAgreesWithTheComposition(t *testing.T) {
	for _, pair := range tablePairs() {
		inner, outer := pair[0], pair[1]
		k := emptyKept(len(inner))
		checkAgrees(t, k, inner, outer)
		for page, s := range inner {
			if got, ok := impl.Ask(k, page); got != impl.NoSlot() || ok {
				t.Errorf("Ask of page %d before it is filled = %v, %v; want NoSlot, false", page, got, ok)
			}
			k = checkKeptStep(t, fillStep(page), k, inner, outer)
			checkAgrees(t, k, inner, outer)
			if got, ok := impl.Ask(k, page); got != impl.ComposeSlot(s, outer) || !ok || impl.KnownIn(k) != page+1 {
				t.Errorf("Ask of page %d (%v) through %v = %v, %v with %d known slots; want the composed slot", page, s, outer, got, ok, impl.KnownIn(k))
			}
		}
		if !impl.SameTable(k.Slots, impl.Compose(inner, outer)) {
			t.Errorf("%v and %v fill the slots %v; want their composition", inner, outer, k.Slots)
		}
	}
}

// TestFillOfEverySlot fills from slots of each kind of page and of rights.
func TestFillOfEverySlot(t *testing.T) {
	outer := everySlot()
	inner := slotsToEveryPage(5)
	for _, table := range [][]impl.Slot{nil, outer[:5], outer[20:40], outer} {
		for page := range inner {
			k := impl.Fill(emptyKept(len(inner)), inner, table, page)
			if want := slotThrough(inner[page], table); k.Slots[page] != want || !k.Known[page] || impl.KnownIn(k) != 1 || !impl.KeptOk(k, inner, table) {
				t.Errorf("Fill from %v through %d slots = %v; want %v", inner[page], len(table), k.Slots[page], want)
			}
		}
	}
}

func TestFillTwice(t *testing.T) {
	inner := []impl.Slot{{Page: 1, Rights: 3}, {Page: 0, Rights: 2}, {Page: -1}, {Page: 7, Rights: 3}}
	outer := []impl.Slot{{Page: 5, Rights: 3}, {Page: 4, Rights: 1}}
	changed := []impl.Slot{{Page: 6, Rights: 2}, {Page: -1}}
	for page := range inner {
		once := checkKeptStep(t, fillStep(page), emptyKept(4), inner, outer)
		twice := checkKeptStep(t, fillStep(page), once, inner, outer)
		if !sameKept(impl.Fill(once, inner, outer, page), once) || impl.KnownIn(twice) != 1 {
			t.Errorf("Fill at %d of %v and again = %v", page, once, twice)
		}
		again := checkKeptStep(t, fillStep(page), twice, inner, changed)
		checkAgrees(t, again, inner, changed)
	}
	if got, ok := impl.Ask(impl.Fill(impl.Fill(emptyKept(4), inner, outer, 0), inner, changed, 0), 0); got != impl.NoSlot() || !ok {
		t.Errorf("Ask after the filled page was unmapped and filled again = %v, %v; want NoSlot, true", got, ok)
	}
}

// TestAskAroundEachChange asks for a page before and after it is filled and after each way to forget it.
func TestAskAroundEachChange(t *testing.T) {
	inner := []impl.Slot{{Page: 1, Rights: 3}, {Page: 1, Rights: 1}, {Page: 0, Rights: 3}, {Page: -1}}
	outer := []impl.Slot{{Page: 9, Rights: 2}, {Page: 4, Rights: 3}}
	want := []impl.Slot{{Page: 4, Rights: 3}, {Page: 4, Rights: 1}, {Page: 9, Rights: 2}, {Page: -1}}
	full := impl.KeptNew(4)
	for page := range inner {
		full = impl.Fill(full, inner, outer, page)
	}
	cases := []struct {
		name  string
		k     impl.Kept
		known []bool
	}{
		{"KeptNew", impl.KeptNew(4), []bool{false, false, false, false}},
		{"Fill at 2", impl.Fill(impl.KeptNew(4), inner, outer, 2), []bool{false, false, true, false}},
		{"Fill at 3", impl.Fill(impl.KeptNew(4), inner, outer, 3), []bool{false, false, false, true}},
		{"Fill at all pages", full, []bool{true, true, true, true}},
		{"Forget at 0", impl.Forget(full, 0), []bool{false, true, true, true}},
		{"Forget at 3", impl.Forget(full, 3), []bool{true, true, true, false}},
		{"ForgetUses of 1", impl.ForgetUses(full, inner, 1), []bool{false, false, true, true}},
		{"ForgetUses of 0", impl.ForgetUses(full, inner, 0), []bool{true, true, false, true}},
		{"ForgetUses of -1", impl.ForgetUses(full, inner, -1), []bool{true, true, true, false}},
		{"ForgetUses of 4, a page of outer alone", impl.ForgetUses(full, inner, 4), []bool{true, true, true, true}},
		{"ForgetAll", impl.ForgetAll(full), []bool{false, false, false, false}},
	}
	for _, c := range cases {
		count := 0
		for page, known := range c.known {
			slot := impl.Slot{Page: -1}
			if known {
				count++
				slot = want[page]
			}
			if got, ok := impl.Ask(c.k, page); got != slot || ok != known {
				t.Errorf("%s: Ask of page %d = %v, %v; want %v, %v", c.name, page, got, ok, slot, known)
			}
		}
		if got := impl.KnownIn(c.k); got != count || !impl.KeptOk(c.k, inner, outer) {
			t.Errorf("%s: KnownIn = %d, and %v; want %d known slots that agree", c.name, got, c.k, count)
		}
	}
}

// TestStepsInEveryOrder takes four steps in each order, so that each step meets each state that the others leave.
func TestStepsInEveryOrder(t *testing.T) {
	inner := []impl.Slot{{Page: 1, Rights: 3}, {Page: 0, Rights: 1}, {Page: 1, Rights: 2}}
	outer := []impl.Slot{{Page: 6, Rights: 2}, {Page: 4, Rights: 3}}
	steps := []keptStep{fillStep(0), fillStep(1), fillStep(2), fillStep(3), forgetStep(0), forgetStep(2), forgetUsesStep(0), forgetUsesStep(1), forgetAllStep()}
	var take func(k, want impl.Kept, depth int)
	take = func(k, want impl.Kept, depth int) {
		if !sameKept(k, want) {
			t.Fatalf("a sequence of steps leads to %v; want %v", k, want)
		}
		if !impl.KeptOk(k, inner, outer) {
			t.Fatalf("a sequence of steps leads to %v, which does not agree with %v and %v", k, inner, outer)
		}
		if depth == 0 {
			return
		}
		for _, step := range steps {
			take(step.call(k, inner, outer), step.want(want, inner, outer), depth-1)
		}
	}
	take(impl.KeptNew(3), emptyKept(3), 4)
}

// TestOuterChange changes each slot of the outer table, and then forgets the pages that lead to it and no others.
func TestOuterChange(t *testing.T) {
	inner := []impl.Slot{{Page: 1, Rights: 3}, {Page: 0, Rights: 3}, {Page: 1, Rights: 1}, {Page: 2, Rights: 2}, {Page: -1}, {Page: 3, Rights: 3}}
	outer := []impl.Slot{{Page: 8, Rights: 3}, {Page: 4, Rights: 3}, {Page: 8, Rights: 2}, {Page: -1}}
	full := composedKept(inner, outer, 0)
	for page := range inner {
		full = impl.Fill(full, inner, outer, page)
	}
	for page := range outer {
		for _, change := range []impl.Slot{{Page: 7, Rights: 3}, {Page: 9, Rights: 2}} {
			changed := slices.Clone(outer)
			changed[page] = change
			if impl.KeptOk(full, inner, changed) {
				t.Errorf("KeptOk after %v for %v at page %d = true", change, outer[page], page)
			}
			k := checkKeptStep(t, forgetUsesStep(page), full, inner, changed)
			checkAgrees(t, impl.ForgetUses(full, inner, page), inner, changed)
			for i, s := range inner {
				if got, ok := impl.Ask(k, i); ok != (s.Page != page) || ok && got != slotThrough(s, outer) {
					t.Errorf("Ask of page %d (%v) after page %d was forgotten = %v, %v", i, s, page, got, ok)
				}
			}
			for i := range inner {
				k = checkKeptStep(t, fillStep(i), k, inner, changed)
			}
			if !impl.SameTable(k.Slots, impl.Compose(inner, changed)) || impl.KnownIn(k) != len(inner) {
				t.Errorf("filled again after a change of page %d: %v; want the composition with %v", page, k, changed)
			}
		}
	}
}

// TestInnerChange changes each slot of the inner table, and then forgets that page alone.
func TestInnerChange(t *testing.T) {
	inner := []impl.Slot{{Page: 1, Rights: 3}, {Page: 0, Rights: 3}, {Page: 1, Rights: 1}}
	outer := []impl.Slot{{Page: 8, Rights: 3}, {Page: 4, Rights: 3}, {Page: 5, Rights: 1}}
	full := impl.Fill(impl.Fill(impl.Fill(impl.KeptNew(3), inner, outer, 0), inner, outer, 1), inner, outer, 2)
	for page := range inner {
		changed := slices.Clone(inner)
		changed[page] = impl.Slot{Page: 2, Rights: 3}
		if impl.KeptOk(full, changed, outer) {
			t.Errorf("KeptOk after a change of page %d = true", page)
		}
		k := checkKeptStep(t, forgetStep(page), full, changed, outer)
		checkAgrees(t, impl.Forget(full, page), changed, outer)
		if impl.KnownIn(k) != 2 {
			t.Errorf("Forget at %d leaves %d known slots; want 2", page, impl.KnownIn(k))
		}
		checkAgrees(t, checkKeptStep(t, fillStep(page), k, changed, outer), changed, outer)
	}
}

// pagesAround returns pages inside and outside of slices of the lengths: negative ones, each length itself, and pages far beyond.
func pagesAround(lengths ...int) []int {
	pages := []int{-1, -2, -3, 1000, 1 << 32, -1 << 32, math.MaxInt, math.MinInt, math.MinInt + 1}
	for _, n := range lengths {
		pages = append(pages, n+24, n+1<<32, n-1<<32)
	}
	for page := range slices.Max(lengths) + 2 {
		pages = append(pages, page)
	}
	return pages
}

// TestSlicesOfDifferentLengths takes each step with Known, Slots and inner of every combination of lengths, with pages that lie in some of them and not in others.
func TestSlicesOfDifferentLengths(t *testing.T) {
	outer := []impl.Slot{{Page: 6, Rights: 3}, {Page: 4, Rights: 1}, {Page: 9, Rights: 2}}
	for _, known := range keptLengths {
		for _, slots := range keptLengths {
			for _, size := range keptLengths {
				inner := slotsInto(size+3, 3)[3:]
				for offset := range 2 {
					k := unevenKept(known, slots, offset)
					checkAsked(t, k)
					for _, page := range pagesAround(known, slots, size) {
						for _, step := range stepsAt(page) {
							checkAsked(t, checkKeptStep(t, step, k, inner, outer))
						}
					}
				}
			}
		}
	}
}

// TestStepsOutsideTheShortestSlice names what must be unchanged, with each of the slices the shortest once.
func TestStepsOutsideTheShortestSlice(t *testing.T) {
	outer := identityTable(4)
	for _, lengths := range [][3]int{{1, 3, 3}, {3, 1, 3}, {3, 3, 1}, {0, 3, 3}, {3, 0, 3}, {3, 3, 0}, {1, 2, 3}, {3, 2, 1}, {2, 1, 3}, {2, 3, 1}} {
		k, inner := unevenKept(lengths[0], lengths[1], 0), identityTable(lengths[2])
		for page := slices.Min(lengths[:]); page <= 4; page++ {
			if got := impl.Fill(k, inner, outer, page); !sameKept(got, k) {
				t.Errorf("Fill at %d with lengths %v = %v; want %v unchanged", page, lengths, got, k)
			}
		}
		for page := min(lengths[0], lengths[1]); page <= 4; page++ {
			if got := impl.Forget(k, page); !sameKept(got, k) {
				t.Errorf("Forget at %d with lengths %v = %v; want %v unchanged", page, lengths, got, k)
			}
			if got := impl.ForgetUses(k, identityTable(5), page); !sameKept(got, k) {
				t.Errorf("ForgetUses of %d with lengths %v = %v; want %v unchanged", page, lengths, got, k)
			}
			if got, ok := impl.Ask(k, page); got != impl.NoSlot() || ok {
				t.Errorf("Ask of page %d with lengths %v = %v, %v; want NoSlot, false", page, lengths, got, ok)
			}
		}
	}
}

// TestPagesInTheSpareCapacity asks for pages that lie only in the memory behind the slices.
func TestPagesInTheSpareCapacity(t *testing.T) {
	whole := impl.Kept{Known: slices.Repeat([]bool{true}, 9), Slots: identityTable(9)}
	k := impl.Kept{Known: whole.Known[:4], Slots: whole.Slots[:4]}
	inner := identityTable(9)
	for page := 4; page < 12; page++ {
		if got, ok := impl.Ask(k, page); got != impl.NoSlot() || ok {
			t.Errorf("Ask of page %d behind 4 slots = %v, %v; want NoSlot, false", page, got, ok)
		}
		if got := impl.Fill(k, inner, inner, page); !sameKept(got, k) {
			t.Errorf("Fill at %d behind 4 slots = %v; want %v unchanged", page, got, k)
		}
		if got := impl.Forget(k, page); !sameKept(got, k) {
			t.Errorf("Forget at %d behind 4 slots = %v; want %v unchanged", page, got, k)
		}
	}
	if got := impl.KnownIn(k); got != 4 {
		t.Errorf("KnownIn of 4 slots with 9 behind them = %d", got)
	}
	for page := 2; page < 9; page++ {
		if got := impl.Fill(k, inner[:2], inner, page); !sameKept(got, k) {
			t.Errorf("Fill at %d behind 2 slots of inner = %v; want %v unchanged", page, got, k)
		}
	}
}

func TestForgetUses(t *testing.T) {
	inner := []impl.Slot{{Page: 2, Rights: 3}, {Page: -1}, {Page: 2, Rights: 1}, {Page: 0, Rights: 0}, {Page: -1, Rights: 3}, {Page: -2, Rights: 1}}
	uses := map[int][]int{2: {0, 2}, -1: {1, 4}, 0: {3}, -2: {5}, 1: {}, 3: {}, 100: {}, math.MaxInt: {}, math.MinInt: {}, 1<<32 + 2: {}}
	for page, forgotten := range uses {
		for _, size := range []int{0, 1, 2, 3, 4, 5, 6} {
			for _, n := range []int{0, 1, 3, 5, 6, 9} {
				k := impl.Kept{Known: slices.Repeat([]bool{true}, n), Slots: identityTable(n)}
				got := checkKeptStep(t, forgetUsesStep(page), k, inner[:size], nil)
				for i := range n {
					gone := i < size && slices.Contains(forgotten, i)
					if _, ok := impl.Ask(got, i); ok == gone {
						t.Errorf("ForgetUses of %d with %d known slots and %d of inner: page %d is known: %v", page, n, size, i, ok)
					}
				}
			}
		}
	}
}

// TestForgetAllOfDifferentLengths covers known pages without a slot, which stay known, and slots behind the known pages, which stay as they are.
func TestForgetAllOfDifferentLengths(t *testing.T) {
	all := []bool{true, true, true, true}
	slots := []impl.Slot{{Page: 5, Rights: 3}, {Page: 6, Rights: 1}, {Page: 7, Rights: 2}, {Page: 8, Rights: 3}}
	none := impl.Slot{Page: -1}
	cases := []struct{ k, want impl.Kept }{
		{impl.Kept{Known: all, Slots: slots}, impl.Kept{Known: []bool{false, false, false, false}, Slots: []impl.Slot{none, none, none, none}}},
		{impl.Kept{Known: all, Slots: slots[:2]}, impl.Kept{Known: []bool{false, false, true, true}, Slots: []impl.Slot{none, none}}},
		{impl.Kept{Known: all}, impl.Kept{Known: all}},
		{impl.Kept{Known: all[:1], Slots: slots}, impl.Kept{Known: []bool{false}, Slots: []impl.Slot{none, slots[1], slots[2], slots[3]}}},
		{impl.Kept{Slots: slots}, impl.Kept{Slots: slots}},
		{impl.Kept{Known: []bool{false, true, false}, Slots: slots[:3]}, impl.Kept{Known: []bool{false, false, false}, Slots: []impl.Slot{none, none, none}}},
		{impl.Kept{}, impl.Kept{}},
	}
	for _, c := range cases {
		if got := impl.ForgetAll(c.k); !sameKept(got, c.want) {
			t.Errorf("ForgetAll(%v) = %v; want %v", c.k, got, c.want)
		}
		checkKeptStep(t, forgetAllStep(), c.k, nil, nil)
	}
}

// TestKnownInCountsKnown expects that a page that is known counts, whether or not there is a slot for it.
func TestKnownInCountsKnown(t *testing.T) {
	for _, n := range []int{0, 1, 2, 24, 25, 100} {
		for _, slots := range []int{0, 1, n, n + 3} {
			for set := range n + 1 {
				k := impl.Kept{Known: make([]bool, n), Slots: identityTable(slots)}
				for i := range set {
					k.Known[n-1-i] = true
				}
				if got := impl.KnownIn(k); got != set {
					t.Errorf("KnownIn with %d of %d known and %d slots = %d", set, n, slots, got)
				}
			}
		}
	}
}

func TestKeptOk(t *testing.T) {
	for _, pair := range tablePairs() {
		inner, outer := pair[0], pair[1]
		for offset := range 2 {
			k := composedKept(inner, outer, offset)
			checkAgrees(t, k, inner, outer)
			checkSlotsMatter(t, k, inner, outer)
			checkLengthsMatter(t, k, inner, outer)
		}
	}
}

// checkSlotsMatter expects that KeptOk rejects k with any other slot, known or not, and accepts it with the known ones forgotten.
func checkSlotsMatter(t *testing.T, k impl.Kept, inner, outer []impl.Slot) {
	t.Helper()
	for page, s := range k.Slots {
		for _, other := range []impl.Slot{{Page: -1}, {Page: -1, Rights: 1}, {Page: 0, Rights: 0}, {Page: s.Page, Rights: s.Rights ^ 2}, {Page: s.Page, Rights: s.Rights + 4}, {Page: s.Page + 1, Rights: s.Rights}, inner[page]} {
			changed := cloneKept(k)
			changed.Slots[page] = other
			if got := impl.KeptOk(changed, inner, outer); got != (other == s) {
				t.Errorf("KeptOk with %v for %v at page %d of %d (known: %v) = %v", other, s, page, len(inner), k.Known[page], got)
			}
		}
		switched := cloneKept(k)
		switched.Known[page] = !k.Known[page]
		empty := slotThrough(inner[page], outer) == impl.Slot{Page: -1}
		if got := impl.KeptOk(switched, inner, outer); got != empty {
			t.Errorf("KeptOk with page %d of %d (%v) known: %v = %v", page, len(inner), s, switched.Known[page], got)
		}
	}
}

// checkLengthsMatter expects that KeptOk rejects k with a slice, or with an inner table, that is longer or shorter.
func checkLengthsMatter(t *testing.T, k impl.Kept, inner, outer []impl.Slot) {
	t.Helper()
	none := impl.Slot{Page: -1}
	wrong := map[string]impl.Kept{
		"longer Known":     {Known: append(slices.Clone(k.Known), false), Slots: k.Slots},
		"longer Slots":     {Known: k.Known, Slots: append(slices.Clone(k.Slots), none)},
		"longer by 1 both": {Known: append(slices.Clone(k.Known), false), Slots: append(slices.Clone(k.Slots), none)},
	}
	if n := len(inner); n > 0 {
		wrong["shorter Known"] = impl.Kept{Known: k.Known[:n-1], Slots: k.Slots}
		wrong["shorter Slots"] = impl.Kept{Known: k.Known, Slots: k.Slots[:n-1]}
		wrong["shorter by 1 both"] = impl.Kept{Known: k.Known[:n-1], Slots: k.Slots[:n-1]}
		wrong["no Known"] = impl.Kept{Slots: k.Slots}
		wrong["no Slots"] = impl.Kept{Known: k.Known}
		wrong["neither"] = impl.Kept{}
		wrong["shorter Known, longer Slots"] = impl.Kept{Known: k.Known[:n-1], Slots: append(slices.Clone(k.Slots), none)}
		wrong["longer Known, shorter Slots"] = impl.Kept{Known: append(slices.Clone(k.Known), false), Slots: k.Slots[:n-1]}
	}
	for name, other := range wrong {
		if impl.KeptOk(other, inner, outer) {
			t.Errorf("KeptOk of a table of %d slots with %s = true", len(inner), name)
		}
	}
}

// TestKeptOkOfEmptyTables expects that lengths matter where no slot could differ.
func TestKeptOkOfEmptyTables(t *testing.T) {
	for _, known := range keptLengths {
		for _, slots := range keptLengths {
			for _, size := range keptLengths {
				k := impl.Kept{Known: make([]bool, known), Slots: emptyKept(slots).Slots}
				if got := impl.KeptOk(k, emptyKept(size).Slots, nil); got != (known == size && slots == size) {
					t.Errorf("KeptOk with %d known, %d slots and %d of inner = %v", known, slots, size, got)
				}
			}
		}
	}
}

func TestCheckingAShadowTableModifiesNothing(t *testing.T) {
	for _, pair := range tablePairs() {
		k := composedKept(pair[0], pair[1], 0)
		given, before := keptArgumentsOf(k, pair[0], pair[1], 3), keptArgumentsOf(k, pair[0], pair[1], 3)
		impl.KeptOk(given.kept, given.inner, given.outer)
		impl.KnownIn(given.kept)
		for page := -1; page <= len(k.Known)+3; page++ {
			impl.Ask(given.kept, page)
		}
		if !sameArguments(given, before) {
			t.Errorf("a shadow table of %d slots or its tables were modified by checking it", len(k.Known))
		}
	}
}
