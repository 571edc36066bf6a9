package tests

import (
	"fmt"
	"math"
	"slices"
	"testing"

	"loop.example/g00975/impl"
)

// seenLengths lie around 0 and on both sides of 40, the most values that a guest observes.
var seenLengths = []int{0, 1, 2, 3, 38, 39, 40, 41, 42, 80, 300}

// seenOfLength returns n values that differ.
func seenOfLength(n int) []int {
	seen := make([]int, n)
	for i := range seen {
		seen[i] = 1000 + i
	}
	return seen
}

// fullGuest returns a valid guest that can run. It has an interrupt pending and all its slices have elements, none of which is the same in both tables.
func fullGuest() impl.Guest {
	return impl.Guest{
		Prog:    progOfLength(5),
		A:       42,
		Pc:      3,
		Written: []impl.Slot{{Page: 5, Rights: 3}, {Page: -1}, {Page: 0, Rights: 1}, {Page: 7, Rights: 2}},
		Live:    []impl.Slot{{Page: 6, Rights: 1}, {Page: 1, Rights: 2}, {Page: -1}, {Page: 2, Rights: 3}},
		Ctl:     impl.Ctl{Traps: 1, Post: 8, Open: true},
		Pending: 33,
		Seen:    []int{7, 107, 0},
	}
}

// cloneGuest copies a guest without the help of the program.
func cloneGuest(g impl.Guest) impl.Guest {
	g.Prog, g.Seen = slices.Clone(g.Prog), slices.Clone(g.Seen)
	g.Written, g.Live = slices.Clone(g.Written), slices.Clone(g.Live)
	return g
}

// equalGuests compares two guests without the help of the program.
func equalGuests(a, b impl.Guest) bool {
	return slices.Equal(a.Prog, b.Prog) && a.A == b.A && a.Pc == b.Pc &&
		slices.Equal(a.Written, b.Written) && slices.Equal(a.Live, b.Live) &&
		a.Ctl == b.Ctl && a.Pending == b.Pending && a.Exit == b.Exit && a.Halted == b.Halted && slices.Equal(a.Seen, b.Seen)
}

// spoilProg and spoilNumbers overwrite all memory of a slice, also the capacity behind it, and so does spoilGuest for all slices of a guest.

func spoilProg(p []impl.Ins) {
	whole := p[:cap(p)]
	for i := range whole {
		whole[i] = impl.Ins{Op: -77, X: -77}
	}
}

func spoilNumbers(numbers []int) {
	whole := numbers[:cap(numbers)]
	for i := range whole {
		whole[i] = -77
	}
}

func spoilGuest(g impl.Guest) {
	spoilProg(g.Prog)
	spoil(g.Written)
	spoil(g.Live)
	spoilNumbers(g.Seen)
}

// guestWithSpare returns a guest whose slices lie in front of a spare capacity, and the same guest with that capacity.
func guestWithSpare(g impl.Guest, spare int) (front, whole impl.Guest) {
	front, whole = g, g
	front.Prog, whole.Prog = progWithSpare(g.Prog, progOfLength(spare)...)
	front.Written, whole.Written = slotsWithSpare(g.Written, spare)
	front.Live, whole.Live = slotsWithSpare(g.Live, spare)
	whole.Seen = slices.Concat(g.Seen, seenOfLength(spare))
	front.Seen = whole.Seen[:len(g.Seen)]
	return front, whole
}

// guestWith returns a copy of the full guest after a change.
func guestWith(change func(g *impl.Guest)) impl.Guest {
	g := fullGuest()
	change(&g)
	return g
}

// guestsOfTables returns guests with the table as Written, as Live and as both, which then share their memory.
func guestsOfTables(table []impl.Slot) []impl.Guest {
	return []impl.Guest{
		guestWith(func(g *impl.Guest) { g.Written = table }),
		guestWith(func(g *impl.Guest) { g.Live = table }),
		guestWith(func(g *impl.Guest) { g.Written, g.Live = table, table }),
	}
}

// numberChanges set one number of a guest each.
var numberChanges = []func(g *impl.Guest, n int){
	func(g *impl.Guest, n int) { g.A = n },
	func(g *impl.Guest, n int) { g.Pc = n },
	func(g *impl.Guest, n int) { g.Ctl.Traps = n },
	func(g *impl.Guest, n int) { g.Ctl.Post = n },
	func(g *impl.Guest, n int) { g.Pending = n },
	func(g *impl.Guest, n int) { g.Exit.Kind = n },
	func(g *impl.Guest, n int) { g.Exit.Page = n },
	func(g *impl.Guest, n int) { g.Exit.N = n },
	func(g *impl.Guest, n int) { g.Prog = withIns(g.Prog, 2, impl.Ins{Op: n}) },
	func(g *impl.Guest, n int) { g.Prog = withIns(g.Prog, 4, impl.Ins{Op: 5, X: n}) },
	func(g *impl.Guest, n int) { g.Written = tableWith(g.Written, 0, impl.Slot{Page: n, Rights: 3}) },
	func(g *impl.Guest, n int) { g.Written = tableWith(g.Written, 3, impl.Slot{Page: 1, Rights: n}) },
	func(g *impl.Guest, n int) { g.Live = tableWith(g.Live, 0, impl.Slot{Page: n, Rights: 3}) },
	func(g *impl.Guest, n int) { g.Live = tableWith(g.Live, 3, impl.Slot{Page: 1, Rights: n}) },
	func(g *impl.Guest, n int) { g.Seen = []int{7, n, 0} },
}

// tableWith returns a copy of the table with s at index page, without the help of the program.
func tableWith(table []impl.Slot, page int, s impl.Slot) []impl.Slot {
	changed := slices.Clone(table)
	changed[page] = s
	return changed
}

// someGuests returns guests of every kind: fresh, full and empty ones, with every number around its range, with slices of many lengths, stopped and halted, and with every number of seen values.
func someGuests() []impl.Guest {
	all := []impl.Guest{{}, fullGuest(), {Seen: []int{}, Prog: []impl.Ins{}, Written: []impl.Slot{}, Live: []impl.Slot{}}, {Written: slotsOfLength(4), Live: slotsOfLength(4)}}
	for _, change := range numberChanges {
		for _, n := range []int{math.MinInt, -1, 0, 1, 3, 4, 7, 8, 12, 13, 99, 100, 255, 256, math.MaxInt} {
			all = append(all, guestWith(func(g *impl.Guest) { change(g, n) }))
		}
	}
	for _, n := range []int{0, 1, 3, 4, 5, 12, 13, 30} {
		all = append(all, guestWith(func(g *impl.Guest) { g.Prog = progOfLength(n) }))
		all = append(all, guestsOfTables(slotsOfLength(n))...)
		all = append(all, guestsOfTables(slotsInto(n, 8))...)
	}
	for _, n := range seenLengths {
		all = append(all, guestWith(func(g *impl.Guest) { g.Seen = seenOfLength(n) }))
		all = append(all, guestWith(func(g *impl.Guest) { g.Seen, g.Halted = seenOfLength(n), true }))
	}
	for _, e := range exitsWith([]int{-1, 0, 1, 2, 3, 4, 5}, []int{0, 3}, []int{0, 99}) {
		all = append(all, guestWith(func(g *impl.Guest) { g.Exit = e }))
	}
	return all
}

// The functions wantGuestOk to wantInterrupted do what chapter 15 says, without the help of the program.

func wantTableOk(table []impl.Slot) bool {
	valid := func(s impl.Slot) bool {
		mapsNone := s.Page == -1 && s.Rights == 0
		mapsOne := 0 <= s.Page && s.Page <= 7 && 1 <= s.Rights && s.Rights <= 3
		return mapsNone || mapsOne
	}
	for _, s := range table {
		if !valid(s) {
			return false
		}
	}
	return len(table) == 4
}

func wantGuestOk(g impl.Guest) bool {
	return wantProgOk(g.Prog) && 0 <= g.A && g.A <= 99 && 0 <= g.Pc && g.Pc <= 12 &&
		wantTableOk(g.Written) && wantTableOk(g.Live) &&
		len(wantFaults(g.Ctl)) == 0 && !missing(256, g.Pending) && wantExitOk(g.Exit) && len(g.Seen) <= 40
}

func wantCanRun(g impl.Guest) bool {
	e := g.Exit
	stopped := e.Kind != 0 || e.Page != 0 || e.Write || e.N != 0
	return !stopped && !g.Halted
}

func wantSaw(g impl.Guest, n int) impl.Guest {
	want := cloneGuest(g)
	if len(g.Seen) <= 39 {
		want.Seen = append(want.Seen, n)
	}
	return want
}

func wantTakesIrq(g impl.Guest) bool {
	return wantCanRun(g) && g.Ctl.Open && len(wantPending(g.Pending)) > 0
}

func wantInterrupted(g impl.Guest) impl.Guest {
	if !wantTakesIrq(g) {
		return cloneGuest(g)
	}
	rest, n, _ := wantTakeIrq(g.Pending)
	want := wantSaw(g, 100+n)
	want.Pending = rest
	return want
}

func wantStopped(g impl.Guest, e impl.Exit) impl.Guest {
	want := cloneGuest(g)
	want.Exit = e
	return want
}

// guestStep is one change of a guest: the call, and what it is expected to return.
type guestStep struct {
	name string
	call func(g impl.Guest) impl.Guest
	want func(g impl.Guest) impl.Guest
}

func sawStep(n int) guestStep {
	return guestStep{fmt.Sprintf("Saw of %d", n),
		func(g impl.Guest) impl.Guest { return impl.Saw(g, n) },
		func(g impl.Guest) impl.Guest { return wantSaw(g, n) }}
}

func stoppedStep(e impl.Exit) guestStep {
	return guestStep{fmt.Sprintf("Stopped with %+v", e),
		func(g impl.Guest) impl.Guest { return impl.Stopped(g, e) },
		func(g impl.Guest) impl.Guest { return wantStopped(g, e) }}
}

var interruptedStep = guestStep{"Interrupted", impl.Interrupted, wantInterrupted}

// guestSteps are each kind of step.
var guestSteps = []guestStep{
	sawStep(0), sawStep(7), sawStep(-1), sawStep(107), sawStep(math.MinInt), sawStep(math.MaxInt), interruptedStep,
	stoppedStep(impl.Exit{}), stoppedStep(impl.Exit{Kind: 1, Page: 2, Write: true}), stoppedStep(impl.Exit{Kind: 4}), stoppedStep(impl.Exit{Kind: -5, Page: 9, N: math.MinInt}),
}

// checkGuestApart fails if the slices of a guest share memory with each other. The programs and the values seen have types of their own, so only the tables can.
func checkGuestApart(t *testing.T, name string, g impl.Guest) {
	t.Helper()
	live := slices.Clone(g.Live)
	spoil(g.Written)
	if !slices.Equal(g.Live, live) {
		t.Errorf("writing to Written of %s changes Live", name)
	}
}

// checkGuestStep returns what the step returns. It fails if that is not what is expected, if the argument or the spare capacity behind it was modified, or if the result shares memory with it or in itself.
func checkGuestStep(t *testing.T, step guestStep, g impl.Guest) impl.Guest {
	t.Helper()
	want := step.want(g)
	for _, spare := range []int{0, 1, 50} {
		given, whole := guestWithSpare(g, spare)
		before := cloneGuest(whole)
		got := step.call(given)
		if !equalGuests(got, want) {
			t.Errorf("%s of %+v = %+v; want %+v", step.name, g, got, want)
		}
		if !equalGuests(whole, before) || len(given.Seen) != len(g.Seen) {
			t.Errorf("%s of %+v, spare %d, modified its argument", step.name, g, spare)
		}
		spoilGuest(got)
		if !equalGuests(whole, before) {
			t.Errorf("writing to %s of %+v, spare %d, changes its argument", step.name, g, spare)
		}
		again := step.call(given)
		spoilGuest(whole)
		if !equalGuests(again, want) {
			t.Errorf("%s of %+v, spare %d, changes with its argument, or from call to call", step.name, g, spare)
		}
		checkGuestApart(t, step.name, again)
	}
	checkGuestApart(t, step.name, step.call(g))
	return want
}

// checkAsksGuest compares the functions that ask for something with what chapter 15 says, and looks whether they modify the guest.
func checkAsksGuest(t *testing.T, g impl.Guest) {
	t.Helper()
	given, whole := guestWithSpare(g, 3)
	before := cloneGuest(whole)
	if got, want := impl.GuestOk(given), wantGuestOk(g); got != want {
		t.Errorf("GuestOk(%+v) = %v; want %v", g, got, want)
	}
	if got, want := impl.CanRun(given), wantCanRun(g); got != want {
		t.Errorf("CanRun(%+v) = %v; want %v", g, got, want)
	}
	if got, want := impl.TakesIrq(given), wantTakesIrq(g); got != want {
		t.Errorf("TakesIrq(%+v) = %v; want %v", g, got, want)
	}
	if !equalGuests(whole, before) {
		t.Errorf("a question about %+v modified it", g)
	}
}

func checkSameGuest(t *testing.T, a, b impl.Guest, want bool) {
	t.Helper()
	if got := impl.SameGuest(a, b); got != want {
		t.Errorf("SameGuest(%+v, %+v) = %v; want %v", a, b, got, want)
	}
	if got := impl.SameGuest(b, a); got != want {
		t.Errorf("SameGuest(%+v, %+v) = %v; want %v", b, a, got, want)
	}
}

func TestGuestNumbers(t *testing.T) {
	if numbers := []int{impl.GuestPages, impl.MonPages, impl.MaxSeen}; !slices.Equal(numbers, []int{4, 8, 40}) {
		t.Error("GuestPages, MonPages and MaxSeen are", numbers)
	}
}

// newProgs returns programs that are valid and others that are not.
func newProgs() [][]impl.Ins {
	progs := [][]impl.Ins{nil, {}, {{}}, {{Op: 7}}, {{Op: -1, X: math.MinInt}}}
	for n := range 31 {
		progs = append(progs, progOfLength(n))
	}
	for _, i := range slices.Concat(validInstructions(), invalidInstructions()) {
		progs = append(progs, []impl.Ins{i}, withIns(progOfLength(12), 11, i))
	}
	return progs
}

func TestGuestNew(t *testing.T) {
	for _, p := range newProgs() {
		got := impl.GuestNew(p)
		none := impl.Slot{Page: -1, Rights: 0}
		want := impl.Guest{Prog: p, Written: []impl.Slot{none, none, none, none}, Live: []impl.Slot{none, none, none, none}}
		if !equalGuests(got, want) {
			t.Errorf("GuestNew(%v) = %+v; want %+v", p, got, want)
		}
		if !slices.Equal(got.Written, impl.TableNew(impl.GuestPages)) || !slices.Equal(got.Live, impl.TableNew(impl.GuestPages)) {
			t.Errorf("GuestNew(%v) has the tables %v and %v; want TableNew(GuestPages)", p, got.Written, got.Live)
		}
		if ok := impl.GuestOk(got); ok != wantProgOk(p) {
			t.Errorf("GuestOk(%+v) = %v; its program is %v", got, ok, p)
		}
		if !impl.CanRun(got) || impl.TakesIrq(got) {
			t.Errorf("a guest with program %v can not run, or takes an interrupt", p)
		}
	}
}

func TestGuestNewIsNewMemory(t *testing.T) {
	for _, p := range newProgs() {
		for _, spare := range []int{0, 1, 20} {
			front, whole := progWithSpare(p, progOfLength(spare)...)
			before := slices.Clone(whole)
			first, second := impl.GuestNew(front), impl.GuestNew(front)
			want := cloneGuest(second)
			spoilGuest(first)
			if !slices.Equal(whole, before) {
				t.Errorf("writing to a guest with program %v, spare %d, changes the program", p, spare)
			}
			if !equalGuests(second, want) {
				t.Errorf("two guests with program %v share memory", p)
			}
			spoilProg(whole)
			if !equalGuests(second, want) {
				t.Errorf("a guest with program %v, spare %d, changes with the program", p, spare)
			}
			checkGuestApart(t, "GuestNew", second)
		}
	}
}

func TestGuestOk(t *testing.T) {
	for _, g := range someGuests() {
		checkAsksGuest(t, g)
	}
}

// TestGuestOkOfNumbers takes every number of a guest around all of the ranges.
func TestGuestOkOfNumbers(t *testing.T) {
	for _, change := range numberChanges {
		for _, n := range numbersAround(300) {
			checkAsksGuest(t, guestWith(func(g *impl.Guest) { change(g, n) }))
		}
	}
}

func TestGuestOkOfProgs(t *testing.T) {
	for _, p := range newProgs() {
		checkAsksGuest(t, guestWith(func(g *impl.Guest) { g.Prog = p }))
	}
}

func TestGuestOkOfTables(t *testing.T) {
	for n := range 13 {
		for _, table := range [][]impl.Slot{impl.TableNew(n), slotsOfLength(n), identityTable(n), make([]impl.Slot, n)} {
			for _, g := range guestsOfTables(table) {
				checkAsksGuest(t, g)
			}
		}
	}
	for page := range 4 {
		for _, s := range slices.Concat(everySlot(), slotsToEveryPage(8)) {
			for _, g := range guestsOfTables(tableWith(identityTable(4), page, s)) {
				checkAsksGuest(t, g)
			}
		}
	}
}

func TestGuestOkOfControlsAndExits(t *testing.T) {
	for _, c := range slices.Concat(validControls(), someControls()) {
		checkAsksGuest(t, guestWith(func(g *impl.Guest) { g.Ctl = c }))
	}
	for _, e := range slices.Concat(validExits(), someExits()) {
		checkAsksGuest(t, guestWith(func(g *impl.Guest) { g.Exit = e }))
	}
}

// TestGuestOkOfSeen has any values: only their number matters.
func TestGuestOkOfSeen(t *testing.T) {
	for n := range 100 {
		for _, first := range append([]int{0, 99, 100, 107, 108}, oddNumbers...) {
			g := guestWith(func(g *impl.Guest) { g.Seen = seenOfLength(n) })
			if n > 0 {
				g.Seen[0] = first
			}
			if got := impl.GuestOk(g); got != (n < 41) {
				t.Errorf("GuestOk of a guest that saw %d values, %d first, = %v", n, first, got)
			}
		}
	}
}

// TestGuestOkOfHalted has guests that are valid whether they can run or not.
func TestGuestOkOfHalted(t *testing.T) {
	for _, e := range validExits() {
		for _, halted := range []bool{true, false} {
			if g := guestWith(func(g *impl.Guest) { g.Exit, g.Halted = e, halted }); !impl.GuestOk(g) {
				t.Errorf("GuestOk(%+v) = false", g)
			}
		}
	}
}

func TestGuestOkBounds(t *testing.T) {
	for _, c := range []struct {
		name   string
		change func(g *impl.Guest)
		want   bool
	}{
		{"nothing changed", func(g *impl.Guest) {}, true},
		{"A 0", func(g *impl.Guest) { g.A = 0 }, true},
		{"A 99", func(g *impl.Guest) { g.A = 99 }, true},
		{"A -1", func(g *impl.Guest) { g.A = -1 }, false},
		{"A 100", func(g *impl.Guest) { g.A = 100 }, false},
		{"A smallest", func(g *impl.Guest) { g.A = math.MinInt }, false},
		{"A largest", func(g *impl.Guest) { g.A = math.MaxInt }, false},
		{"Pc 0", func(g *impl.Guest) { g.Pc = 0 }, true},
		{"Pc behind the program", func(g *impl.Guest) { g.Pc = 6 }, true},
		{"Pc 12", func(g *impl.Guest) { g.Pc = 12 }, true},
		{"Pc -1", func(g *impl.Guest) { g.Pc = -1 }, false},
		{"Pc 13", func(g *impl.Guest) { g.Pc = 13 }, false},
		{"Pc smallest", func(g *impl.Guest) { g.Pc = math.MinInt }, false},
		{"Pc largest", func(g *impl.Guest) { g.Pc = math.MaxInt }, false},
		{"no program", func(g *impl.Guest) { g.Prog = nil }, false},
		{"12 instructions", func(g *impl.Guest) { g.Prog = progOfLength(12) }, true},
		{"13 instructions", func(g *impl.Guest) { g.Prog = progOfLength(13) }, false},
		{"an invalid instruction", func(g *impl.Guest) { g.Prog = []impl.Ins{{Op: 1, X: 100}} }, false},
		{"no Written", func(g *impl.Guest) { g.Written = nil }, false},
		{"no Live", func(g *impl.Guest) { g.Live = nil }, false},
		{"Written of 3", func(g *impl.Guest) { g.Written = impl.TableNew(3) }, false},
		{"Written of 5", func(g *impl.Guest) { g.Written = impl.TableNew(5) }, false},
		{"Live of 3", func(g *impl.Guest) { g.Live = impl.TableNew(3) }, false},
		{"Live of 5", func(g *impl.Guest) { g.Live = impl.TableNew(5) }, false},
		{"Written to page 7", func(g *impl.Guest) { g.Written[1] = impl.Slot{Page: 7, Rights: 1} }, true},
		{"Written to page 8", func(g *impl.Guest) { g.Written[1] = impl.Slot{Page: 8, Rights: 1} }, false},
		{"Live to page 7", func(g *impl.Guest) { g.Live[1] = impl.Slot{Page: 7, Rights: 1} }, true},
		{"Live to page 8", func(g *impl.Guest) { g.Live[1] = impl.Slot{Page: 8, Rights: 1} }, false},
		{"Written without rights", func(g *impl.Guest) { g.Written[3] = impl.Slot{Page: 2} }, false},
		{"Live without rights", func(g *impl.Guest) { g.Live[3] = impl.Slot{Page: 2} }, false},
		{"Written with rights 4", func(g *impl.Guest) { g.Written[3] = impl.Slot{Page: 2, Rights: 4} }, false},
		{"Live with rights 4", func(g *impl.Guest) { g.Live[3] = impl.Slot{Page: 2, Rights: 4} }, false},
		{"Written to no page with rights", func(g *impl.Guest) { g.Written[2] = impl.Slot{Page: -1, Rights: 1} }, false},
		{"Live to no page with rights", func(g *impl.Guest) { g.Live[2] = impl.Slot{Page: -1, Rights: 1} }, false},
		{"Traps 3", func(g *impl.Guest) { g.Ctl.Traps = 3 }, true},
		{"Traps 4", func(g *impl.Guest) { g.Ctl.Traps = 4 }, false},
		{"Traps -1", func(g *impl.Guest) { g.Ctl.Traps = -1 }, false},
		{"TrHalt alone with a Post", func(g *impl.Guest) { g.Ctl.Traps = 2 }, false},
		{"Post 256", func(g *impl.Guest) { g.Ctl.Post = 256 }, false},
		{"a Post, but not open", func(g *impl.Guest) { g.Ctl.Open = false }, false},
		{"no Post, not open", func(g *impl.Guest) { g.Ctl = impl.Ctl{} }, true},
		{"Pending 0", func(g *impl.Guest) { g.Pending = 0 }, true},
		{"Pending 255", func(g *impl.Guest) { g.Pending = 255 }, true},
		{"Pending -1", func(g *impl.Guest) { g.Pending = -1 }, false},
		{"Pending 256", func(g *impl.Guest) { g.Pending = 256 }, false},
		{"Pending smallest", func(g *impl.Guest) { g.Pending = math.MinInt }, false},
		{"Pending largest", func(g *impl.Guest) { g.Pending = math.MaxInt }, false},
		{"a fault at page 3", func(g *impl.Guest) { g.Exit = impl.Exit{Kind: 1, Page: 3, Write: true} }, true},
		{"a fault at page 4", func(g *impl.Guest) { g.Exit = impl.Exit{Kind: 1, Page: 4, Write: true} }, false},
		{"a call of 99", func(g *impl.Guest) { g.Exit = impl.Exit{Kind: 2, N: 99} }, true},
		{"a call of 100", func(g *impl.Guest) { g.Exit = impl.Exit{Kind: 2, N: 100} }, false},
		{"no exit with N", func(g *impl.Guest) { g.Exit = impl.Exit{N: 1} }, false},
		{"exit kind 5", func(g *impl.Guest) { g.Exit = impl.Exit{Kind: 5} }, false},
		{"halted", func(g *impl.Guest) { g.Halted = true }, true},
		{"nothing seen", func(g *impl.Guest) { g.Seen = nil }, true},
		{"40 values seen", func(g *impl.Guest) { g.Seen = seenOfLength(40) }, true},
		{"41 values seen", func(g *impl.Guest) { g.Seen = seenOfLength(41) }, false},
		{"any value seen", func(g *impl.Guest) { g.Seen = []int{math.MinInt, -1, 100, math.MaxInt} }, true},
		{"the zero guest", func(g *impl.Guest) { *g = impl.Guest{} }, false},
	} {
		if g := guestWith(c.change); impl.GuestOk(g) != c.want {
			t.Errorf("%s: GuestOk(%+v) = %v; want %v", c.name, g, !c.want, c.want)
		}
	}
}

// TestCanRun has every exit, valid or not: only the zero one is none.
func TestCanRun(t *testing.T) {
	for _, e := range slices.Concat(validExits(), someExits()) {
		for _, halted := range []bool{true, false} {
			for _, g := range []impl.Guest{{}, fullGuest(), impl.GuestNew(nil)} {
				g.Exit, g.Halted = e, halted
				if got, want := impl.CanRun(g), e == (impl.Exit{}) && !halted; got != want {
					t.Errorf("CanRun(%+v) = %v; want %v", g, got, want)
				}
			}
		}
	}
}

func TestCanRunBounds(t *testing.T) {
	for _, c := range []struct {
		g    impl.Guest
		want bool
	}{
		{impl.Guest{}, true},
		{impl.Guest{Halted: true}, false},
		{impl.Guest{Exit: impl.FaultExit(0, false)}, false}, {impl.Guest{Exit: impl.FaultExit(3, true)}, false},
		{impl.Guest{Exit: impl.CallExit(0)}, false}, {impl.Guest{Exit: impl.OutExit(0)}, false}, {impl.Guest{Exit: impl.Exit{Kind: impl.ExHalt}}, false},
		{impl.Guest{Exit: impl.Exit{Kind: -1}}, false}, {impl.Guest{Exit: impl.Exit{Kind: 5}}, false},
		{impl.Guest{Exit: impl.Exit{Page: 1}}, false}, {impl.Guest{Exit: impl.Exit{Page: -1}}, false}, {impl.Guest{Exit: impl.Exit{Write: true}}, false}, {impl.Guest{Exit: impl.Exit{N: math.MinInt}}, false},
		{impl.Guest{Exit: impl.CallExit(5), Halted: true}, false},
		{impl.Guest{A: -1, Pc: -1, Pending: -1, Ctl: impl.Ctl{Traps: -1}, Seen: seenOfLength(50)}, true},
	} {
		if got := impl.CanRun(c.g); got != c.want {
			t.Errorf("CanRun(%+v) = %v; want %v", c.g, got, c.want)
		}
	}
}

func TestSaw(t *testing.T) {
	for _, length := range seenLengths {
		for _, n := range append(numbersAround(20), 99, 100, 107, 108) {
			g := impl.Saw(guestWith(func(g *impl.Guest) { g.Seen = seenOfLength(length) }), n)
			want := seenOfLength(length)
			if length < 40 {
				want = append(want, n)
			}
			if !slices.Equal(g.Seen, want) {
				t.Errorf("Saw of %d values and %d has seen %v; want %v", length, n, g.Seen, want)
			}
		}
	}
}

// TestSawUntilFull observes more values than a guest keeps: the first 40 are kept, in order.
func TestSawUntilFull(t *testing.T) {
	g := fullGuest()
	want := slices.Clone(g.Seen)
	for n := range 60 {
		g = impl.Saw(g, 500+n)
		if len(want) < 40 {
			want = append(want, 500+n)
		}
		if !slices.Equal(g.Seen, want) {
			t.Errorf("after %d values Seen is %v; want %v", n+1, g.Seen, want)
		}
		if !impl.GuestOk(g) {
			t.Errorf("GuestOk(%+v) = false after %d values", g, n+1)
		}
	}
	if len(g.Seen) != 40 || g.Seen[39] != 536 {
		t.Errorf("Seen is %v at the end", g.Seen)
	}
}

// TestSawTwice observes two values after the same guest: neither is seen in the other result.
func TestSawTwice(t *testing.T) {
	for _, length := range seenLengths {
		g := guestWith(func(g *impl.Guest) { g.Seen = append(make([]int, 0, length+8), seenOfLength(length)...) })
		first := impl.Saw(g, 1)
		second := impl.Saw(g, 2)
		if !equalGuests(first, wantSaw(g, 1)) || !equalGuests(second, wantSaw(g, 2)) {
			t.Errorf("Saw of %d values twice has seen %v and %v", length, first.Seen, second.Seen)
		}
	}
}

// interruptGuests returns guests that can run or not, accept interrupts or not, with each of these pending, and with each number of values seen.
func interruptGuests(pendings []int) []impl.Guest {
	var all []impl.Guest
	for _, e := range []impl.Exit{{}, {Kind: 1, Page: 1}, {Kind: 2, N: 5}, {Kind: 3}, {Kind: 4}, {Kind: 9}, {N: 1}} {
		for _, halted := range []bool{true, false} {
			for _, open := range []bool{true, false} {
				for _, p := range pendings {
					for _, seen := range []int{0, 3, 39, 40, 41} {
						all = append(all, guestWith(func(g *impl.Guest) {
							g.Exit, g.Halted, g.Ctl.Open, g.Pending, g.Seen = e, halted, open, p, seenOfLength(seen)
						}))
					}
				}
			}
		}
	}
	return all
}

func TestTakesIrq(t *testing.T) {
	for _, g := range interruptGuests(append(numbersAround(300), fewSets...)) {
		if got, want := impl.TakesIrq(g), wantTakesIrq(g); got != want {
			t.Errorf("TakesIrq(%+v) = %v; want %v", g, got, want)
		}
	}
}

// TestInterrupted has every set of pending interrupts, and numbers that are none.
func TestInterrupted(t *testing.T) {
	for _, g := range interruptGuests(append(numbersAround(300), fewSets...)) {
		got := impl.Interrupted(g)
		if want := wantInterrupted(g); !equalGuests(got, want) {
			t.Errorf("Interrupted(%+v) = %+v; want %+v", g, got, want)
		}
		// This is the promise itself, in the words of the chapters before.
		if changed := !equalGuests(got, g); changed != (impl.CanRun(g) && g.Ctl.Open && impl.IrqCount(g.Pending) > 0) {
			t.Errorf("Interrupted(%+v) = %+v", g, got)
		}
	}
}

func TestInterruptBounds(t *testing.T) {
	open, shut := impl.Ctl{Open: true}, impl.Ctl{}
	for _, c := range []struct {
		g       impl.Guest
		pending int
		seen    []int
	}{
		{impl.Guest{Ctl: open, Pending: 4}, 0, []int{102}},
		{impl.Guest{Ctl: open, Pending: 1}, 0, []int{100}},
		{impl.Guest{Ctl: open, Pending: 128}, 0, []int{107}},
		{impl.Guest{Ctl: open, Pending: 33, Seen: []int{8}}, 1, []int{8, 105}},
		{impl.Guest{Ctl: open, Pending: 255}, 127, []int{107}},
		{impl.Guest{Ctl: open, Pending: 3, Seen: seenOfLength(39)}, 1, append(seenOfLength(39), 101)},
		{impl.Guest{Ctl: open, Pending: 3, Seen: seenOfLength(40)}, 1, seenOfLength(40)},
		{impl.Guest{Ctl: open, Pending: 3, Seen: seenOfLength(41)}, 1, seenOfLength(41)},
		{impl.Guest{Ctl: impl.Ctl{Traps: -1, Post: 999, Open: true}, Pending: 4}, 0, []int{102}},
		{impl.Guest{Ctl: impl.Ctl{Post: 4, Open: true}, Pending: 4}, 0, []int{102}},
		{impl.Guest{Ctl: open}, 0, nil},
		{impl.Guest{Ctl: open, Pending: -1}, -1, nil},
		{impl.Guest{Ctl: open, Pending: 256}, 256, nil},
		{impl.Guest{Ctl: open, Pending: 257}, 257, nil},
		{impl.Guest{Ctl: open, Pending: math.MinInt}, math.MinInt, nil},
		{impl.Guest{Ctl: open, Pending: math.MaxInt}, math.MaxInt, nil},
		{impl.Guest{Ctl: shut, Pending: 4}, 4, nil},
		{impl.Guest{Ctl: impl.Ctl{Post: 4}, Pending: 4}, 4, nil},
		{impl.Guest{Ctl: open, Pending: 4, Halted: true}, 4, nil},
		{impl.Guest{Ctl: open, Pending: 4, Exit: impl.CallExit(0)}, 4, nil},
		{impl.Guest{Ctl: open, Pending: 4, Exit: impl.Exit{Write: true}}, 4, nil},
		{impl.Guest{Ctl: shut, Pending: 4, Exit: impl.CallExit(0), Halted: true}, 4, nil},
	} {
		taken := c.pending != c.g.Pending
		if got := impl.TakesIrq(c.g); got != taken {
			t.Errorf("TakesIrq(%+v) = %v; want %v", c.g, got, taken)
		}
		want := cloneGuest(c.g)
		want.Pending = c.pending
		if taken {
			want.Seen = c.seen
		}
		if got := impl.Interrupted(c.g); !equalGuests(got, want) {
			t.Errorf("Interrupted(%+v) = %+v; want %+v", c.g, got, want)
		}
	}
}

// TestInterruptedUntilNoneIsLeft takes all interrupts of every set: they are seen in descending order, each once.
func TestInterruptedUntilNoneIsLeft(t *testing.T) {
	for p := range 256 {
		g := guestWith(func(g *impl.Guest) { g.Pending, g.Seen = p, nil })
		for range 20 {
			g = impl.Interrupted(g)
		}
		var want []int
		for _, n := range wantPending(p) {
			want = append(want, 100+n)
		}
		if g.Pending != 0 || !slices.Equal(g.Seen, want) || impl.TakesIrq(g) {
			t.Errorf("of the set %d, %d is left and %v was seen; want %v", p, g.Pending, g.Seen, want)
		}
	}
}

func TestStopped(t *testing.T) {
	exits := slices.Concat(validExits(), someExits())
	for i, e := range exits {
		for _, before := range []impl.Exit{{}, exits[len(exits)-1-i], {Kind: 1, Page: 2, Write: true}, {Kind: 2, N: 3}} {
			for _, halted := range []bool{true, false} {
				g := guestWith(func(g *impl.Guest) { g.Exit, g.Halted = before, halted })
				got := impl.Stopped(g, e)
				if got.Exit != e || !equalGuests(got, wantStopped(g, e)) {
					t.Errorf("Stopped(%+v, %+v) = %+v", g, e, got)
				}
				if impl.CanRun(got) != (e == (impl.Exit{}) && !halted) {
					t.Errorf("CanRun(%+v) = %v", got, impl.CanRun(got))
				}
			}
		}
	}
}

// TestGuestSteps takes every kind of step with every kind of guest, and looks at the memory of arguments and results.
func TestGuestSteps(t *testing.T) {
	for _, g := range someGuests() {
		for _, step := range guestSteps {
			checkGuestStep(t, step, g)
		}
	}
}

// TestGuestStepsInARow applies each step to the result of the one before.
func TestGuestStepsInARow(t *testing.T) {
	g := impl.GuestNew(progOfLength(3))
	g.Ctl.Open, g.Pending = true, 255
	for i := range 300 {
		step := guestSteps[i*i%len(guestSteps)]
		want := checkGuestStep(t, step, g)
		g = step.call(g)
		if !equalGuests(g, want) {
			t.Fatalf("%s gives %+v; want %+v", step.name, g, want)
		}
		checkAsksGuest(t, g)
		if i%7 == 0 {
			g.Exit, g.Pending, g.Seen = impl.Exit{}, i%256, g.Seen[:len(g.Seen)/2]
		}
	}
}

// guestChanges change one field of the full guest each.
var guestChanges = []func(g *impl.Guest){
	func(g *impl.Guest) { g.Prog[4].X++ },
	func(g *impl.Guest) { g.Prog[0].Op++ },
	func(g *impl.Guest) { g.Prog = append(g.Prog, impl.Ins{}) },
	func(g *impl.Guest) { g.Prog = g.Prog[:4] },
	func(g *impl.Guest) { g.Prog = nil },
	func(g *impl.Guest) { g.A++ },
	func(g *impl.Guest) { g.A += 1 << 32 },
	func(g *impl.Guest) { g.Pc-- },
	func(g *impl.Guest) { g.Pc += 1 << 32 },
	func(g *impl.Guest) { g.Written[0].Page++ },
	func(g *impl.Guest) { g.Written[3].Rights++ },
	func(g *impl.Guest) { g.Written = append(g.Written, impl.NoSlot()) },
	func(g *impl.Guest) { g.Written = g.Written[:3] },
	func(g *impl.Guest) { g.Written = []impl.Slot{} },
	func(g *impl.Guest) { g.Live[0].Page++ },
	func(g *impl.Guest) { g.Live[3].Rights-- },
	func(g *impl.Guest) { g.Live = append(g.Live, impl.Slot{}) },
	func(g *impl.Guest) { g.Live = g.Live[:3] },
	func(g *impl.Guest) { g.Live = nil },
	func(g *impl.Guest) { g.Written, g.Live = g.Live, g.Written },
	func(g *impl.Guest) { g.Ctl.Traps = 3 },
	func(g *impl.Guest) { g.Ctl.Post++ },
	func(g *impl.Guest) { g.Ctl.Open = false },
	func(g *impl.Guest) { g.Pending++ },
	func(g *impl.Guest) { g.Pending = -1 },
	func(g *impl.Guest) { g.Exit.Kind = 4 },
	func(g *impl.Guest) { g.Exit.Page = 1 },
	func(g *impl.Guest) { g.Exit.Write = true },
	func(g *impl.Guest) { g.Exit.N = -1 },
	func(g *impl.Guest) { g.Halted = true },
	func(g *impl.Guest) { g.Seen[0]++ },
	func(g *impl.Guest) { g.Seen[2]-- },
	func(g *impl.Guest) { g.Seen = append(g.Seen, 0) },
	func(g *impl.Guest) { g.Seen = g.Seen[:2] },
	func(g *impl.Guest) { slices.Reverse(g.Seen) },
	func(g *impl.Guest) { g.Seen = nil },
}

func TestSameGuest(t *testing.T) {
	for i, change := range guestChanges {
		changed := guestWith(change)
		checkSameGuest(t, changed, guestWith(change), true)
		checkSameGuest(t, changed, fullGuest(), false)
		checkSameGuest(t, changed, impl.Guest{}, false)
		for _, other := range guestChanges[:i] {
			checkSameGuest(t, changed, guestWith(other), false)
		}
	}
	for _, g := range someGuests() {
		checkSameGuest(t, g, cloneGuest(g), true)
		for _, spare := range []int{1, 9} {
			front, whole := guestWithSpare(g, spare)
			checkSameGuest(t, g, front, true)
			checkSameGuest(t, g, whole, false)
		}
	}
}

// TestSameGuestOfPairs compares every kind of guest with every other one.
func TestSameGuestOfPairs(t *testing.T) {
	guests := someGuests()
	for _, a := range guests {
		for _, b := range guests {
			if got, want := impl.SameGuest(a, b), equalGuests(a, b); got != want {
				t.Errorf("SameGuest(%+v, %+v) = %v; want %v", a, b, got, want)
			}
		}
	}
}

// TestSameGuestOfNilAndEmpty has the same guest with slices that are nil and empty, in every combination.
func TestSameGuestOfNilAndEmpty(t *testing.T) {
	for bits := range 16 {
		var g impl.Guest
		if bits&1 != 0 {
			g.Prog = []impl.Ins{}
		}
		if bits&2 != 0 {
			g.Written = []impl.Slot{}
		}
		if bits&4 != 0 {
			g.Live = make([]impl.Slot, 0, 2)
		}
		if bits&8 != 0 {
			g.Seen = make([]int, 0, 5)
		}
		checkSameGuest(t, g, impl.Guest{}, true)
		checkSameGuest(t, g, impl.Guest{A: 1}, false)
		for _, step := range guestSteps {
			checkSameGuest(t, step.call(g), step.call(impl.Guest{}), true)
		}
	}
}

func TestSameGuestModifiesNothing(t *testing.T) {
	for _, g := range someGuests() {
		given, whole := guestWithSpare(g, 3)
		other, wholeOther := guestWithSpare(g, 5)
		before, beforeOther := cloneGuest(whole), cloneGuest(wholeOther)
		impl.SameGuest(given, other)
		impl.SameGuest(given, fullGuest())
		if !equalGuests(whole, before) || !equalGuests(wholeOther, beforeOther) {
			t.Errorf("SameGuest modified %+v", g)
		}
	}
}

// TestGuestsKeepNoState repeats calls, also after others with different arguments.
func TestGuestsKeepNoState(t *testing.T) {
	all := someGuests()
	for range 2 {
		for i, g := range all {
			other := all[len(all)-1-i]
			for _, x := range []impl.Guest{g, other, g, g} {
				checkAsksGuest(t, x)
				checkSameGuest(t, x, g, equalGuests(x, g))
				for _, step := range guestSteps {
					if got := step.call(x); !equalGuests(got, step.want(x)) {
						t.Errorf("%s of %+v = %+v", step.name, x, got)
					}
				}
				if got := impl.GuestNew(x.Prog); !slices.Equal(got.Prog, x.Prog) || impl.Mapped(got.Written)+impl.Mapped(got.Live)+len(got.Seen) != 0 {
					t.Errorf("GuestNew(%v) = %+v", x.Prog, got)
				}
			}
		}
	}
}
