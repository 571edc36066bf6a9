package tests

import (
	"fmt"
	"math"
	"slices"
	"testing"

	"loop.example/g00975/impl"
)

// The functions wantAccess to wantRunnable do what chapter 18 says, without the help of the program.

// wantAccess does the load or store i of guest g in place.
func wantAccess(b *impl.Bare, g int, i impl.Ins) {
	x, write := b.Guests[g], i.Op == 4
	page, permitted := walkedLevel(x.Live, i.X/4, map[bool]int{false: 1, true: 2}[write])
	switch {
	case !permitted:
		b.Guests[g] = wantStopped(x, impl.Exit{Kind: 1, Page: i.X / 4, Write: write})
	case write:
		b.Memory[page][i.X%4] = x.A
		b.Guests[g] = wantMoved(x)
	default:
		b.Guests[g] = wantLoaded(x, b.Memory[page][i.X%4])
	}
}

// wantOut does the output i of guest g in place.
func wantOut(b *impl.Bare, g int, i impl.Ins) {
	if wantHasTrap(b.Guests[g].Ctl.Traps, 1) {
		b.Guests[g] = wantStopped(b.Guests[g], impl.Exit{Kind: 3, N: i.X})
		return
	}
	*b = wantPutOut(*b, i.X)
	b.Guests[g] = wantMoved(b.Guests[g])
}

func wantHalt(x impl.Guest) impl.Guest {
	if wantHasTrap(x.Ctl.Traps, 2) {
		return wantStopped(x, impl.Exit{Kind: 4})
	}
	return wantHeld(x)
}

func wantBareStep(b impl.Bare, g int) (impl.Bare, bool) {
	want := cloneBare(b)
	if !wantBareOk(b) || missing(len(b.Guests), g) || !wantCanRun(b.Guests[g]) {
		return want, false
	}
	x := want.Guests[g]
	next := wantNext(x)
	switch wantKind(x) {
	case 1:
		want.Guests[g] = wantInterrupted(x)
	case 2:
		want.Guests[g] = wantPlainly(x)
	case 3, 4:
		wantAccess(&want, g, next)
	case 5:
		wantOut(&want, g, next)
	case 6:
		want.Guests[g] = wantStopped(x, impl.Exit{Kind: 2, N: next.X})
	case 7:
		want.Guests[g] = wantHalt(x)
	}
	return want, true
}

func wantBareSteps(b impl.Bare, list []int) (impl.Bare, []bool) {
	want, done := cloneBare(b), []bool{}
	for _, g := range list {
		after, ok := wantBareStep(want, g)
		want, done = after, append(done, ok)
	}
	return want, done
}

func wantRunnable(b impl.Bare) []int {
	var able []int
	for g := range b.Guests {
		if wantCanRun(b.Guests[g]) {
			able = append(able, g)
		}
	}
	return able
}

// stepOfGuest and stepsOfGuests are BareStep and BareSteps as changes of a machine. Their booleans are looked at by checkStepped and checkSteps.

func stepOfGuest(g int) bareStep {
	return bareStep{fmt.Sprintf("BareStep of guest %d", g),
		func(b impl.Bare) impl.Bare { got, _ := impl.BareStep(b, g); return got },
		func(b impl.Bare) impl.Bare { want, _ := wantBareStep(b, g); return want }}
}

func stepsOfGuests(list []int) bareStep {
	return bareStep{fmt.Sprintf("BareSteps of guests %v", list),
		func(b impl.Bare) impl.Bare { got, _ := impl.BareSteps(b, list); return got },
		func(b impl.Bare) impl.Bare { want, _ := wantBareSteps(b, list); return want }}
}

// checkStepped compares what BareStep returns with what is expected, and leaves the memory to checkBareStep, which is slower.
func checkStepped(t *testing.T, b impl.Bare, g int, want impl.Bare, wantOk bool) {
	t.Helper()
	if got, ok := impl.BareStep(b, g); ok != wantOk || !equalBares(got, want) {
		t.Errorf("BareStep of guest %d of %+v = %+v, %v; want %+v, %v", g, b, got, ok, want, wantOk)
	}
}

// checkStep expects what chapter 18 says of a machine and guest of any kind.
func checkStep(t *testing.T, b impl.Bare, g int) {
	t.Helper()
	want, ok := wantBareStep(b, g)
	checkStepped(t, b, g, want, ok)
}

func checkRejected(t *testing.T, b impl.Bare, g int) {
	t.Helper()
	checkStepped(t, b, g, cloneBare(b), false)
}

func checkSteps(t *testing.T, b impl.Bare, list []int) {
	t.Helper()
	want, wantDone := wantBareSteps(b, list)
	if got, done := impl.BareSteps(b, list); !slices.Equal(done, wantDone) || !equalBares(got, want) {
		t.Errorf("BareSteps of guests %v of %+v = %+v, %v; want %+v, %v", list, b, got, done, want, wantDone)
	}
}

// otherRunner returns a valid guest that differs from the full one in every field, and can run.
func otherRunner() impl.Guest {
	g := otherGuest()
	g.Exit, g.Halted, g.Pc, g.Pending = impl.Exit{}, false, 0, 0
	return g
}

// bareOf returns a valid machine with these guests, if they are valid. No two of its cells in a page are equal.
func bareOf(guests ...impl.Guest) impl.Bare {
	return impl.Bare{Memory: memoryOf(8, 4), Guests: guests, Outs: []int{5, 99, 0}, Pending: 33}
}

// placed is a machine with the number of one of its guests.
type placed struct {
	b impl.Bare
	g int
}

// inEveryPlace returns machines with the guest alone, and as each of two.
func inEveryPlace(x impl.Guest) []placed {
	return []placed{
		{bareOf(cloneGuest(x)), 0},
		{bareOf(cloneGuest(x), otherRunner()), 0},
		{bareOf(otherRunner(), cloneGuest(x)), 1},
	}
}

// everySlotOfAGuest are the slots of a valid table.
func everySlotOfAGuest() []impl.Slot {
	all := []impl.Slot{{Page: -1}}
	for page := range 8 {
		for rights := 1; rights <= 3; rights++ {
			all = append(all, impl.Slot{Page: page, Rights: rights})
		}
	}
	return all
}

// tablesAround returns tables with s at index page, with no other slot, with all others open to one page, and with all others open to other pages.
func tablesAround(page int, s impl.Slot) [][]impl.Slot {
	none, open := impl.Slot{Page: -1}, impl.Slot{Page: 5, Rights: 3}
	return [][]impl.Slot{
		tableWith([]impl.Slot{none, none, none, none}, page, s),
		tableWith([]impl.Slot{open, open, open, open}, page, s),
		tableWith([]impl.Slot{{Page: 3, Rights: 3}, {Page: 7, Rights: 3}, {Page: 0, Rights: 3}, {Page: 4, Rights: 3}}, page, s),
	}
}

// accessGuest returns a guest in front of a load or store, with these tables.
func accessGuest(op, addr int, written, live []impl.Slot) impl.Guest {
	g := guestBefore(impl.Ins{Op: op, X: addr})
	g.Written, g.Live = written, live
	return g
}

// stepMachines returns machines with a guest in front of every kind of step, in every place: each operation at some X, under each set of traps, with no and with several interrupts, and with guests that cannot run.
func stepMachines() []placed {
	var all []placed
	for _, o := range operations {
		for _, x := range []int{0, 1, 5, 10, 15} {
			for _, c := range []impl.Ctl{{}, {Traps: 1, Post: 8, Open: true}, {Traps: 2, Open: true}, {Traps: 3, Post: 255, Open: true}} {
				g := guestBefore(impl.Ins{Op: o.op, X: min(x, o.most)})
				g.Ctl = c
				for _, state := range fewStates(g) {
					all = append(all, inEveryPlace(state)...)
				}
			}
		}
	}
	return all
}

// oneOfEachStep returns machines with one guest in front of each kind of step, for checks that are slow.
func oneOfEachStep() []placed {
	var all []placed
	for _, i := range []impl.Ins{{Op: 1, X: 8}, {Op: 2, X: 60}, {Op: 3, X: 1}, {Op: 3, X: 5}, {Op: 4, X: 5}, {Op: 4, X: 1}, {Op: 5, X: 7}, {Op: 6, X: 7}, {Op: 7}, {Op: 8, X: 1}} {
		for _, traps := range []int{0, 3} {
			g := guestBefore(i)
			g.Ctl.Traps = traps
			all = append(all, inEveryPlace(g)...)
		}
		g := guestBefore(i)
		g.Pending = 33
		all = append(all, placed{bareOf(g, otherRunner()), 0})
		g.Halted = true
		all = append(all, placed{bareOf(otherRunner(), g), 1})
	}
	return all
}

// invalidating changes a valid machine of two guests that can run, each in one field, so that it is not valid any more.
var invalidating = []func(b *impl.Bare){
	func(b *impl.Bare) { b.Memory = nil },
	func(b *impl.Bare) { b.Memory = b.Memory[:7] },
	func(b *impl.Bare) { b.Memory = append(b.Memory, []int{0, 0, 0, 0}) },
	func(b *impl.Bare) { b.Memory[0] = nil },
	func(b *impl.Bare) { b.Memory[3] = b.Memory[3][:3] },
	func(b *impl.Bare) { b.Memory[7] = append(b.Memory[7], 0) },
	func(b *impl.Bare) { b.Memory[0][0] = -1 },
	func(b *impl.Bare) { b.Memory[7][3] = 100 },
	func(b *impl.Bare) { b.Memory[4][2] = math.MinInt },
	func(b *impl.Bare) { b.Memory[4][2] = math.MaxInt },
	func(b *impl.Bare) { b.Guests = append(b.Guests, thirdGuest()) },
	func(b *impl.Bare) { b.Guests = nil },
	func(b *impl.Bare) { b.Outs = seenOfLength(41) },
	func(b *impl.Bare) { b.Outs = make([]int, 300) },
	func(b *impl.Bare) { b.Pending = -1 },
	func(b *impl.Bare) { b.Pending = 256 },
	func(b *impl.Bare) { b.Pending = math.MinInt },
	func(b *impl.Bare) { b.Pending = math.MaxInt },
}

// invalidatingGuest changes a valid guest in one field, so that it is not valid any more; most of the changes leave it able to run.
var invalidatingGuest = []func(g *impl.Guest){
	func(g *impl.Guest) { g.Prog = nil },
	func(g *impl.Guest) { g.Prog = slices.Repeat(g.Prog, 13) },
	func(g *impl.Guest) { g.Prog[len(g.Prog)-1] = impl.Ins{Op: 9} },
	func(g *impl.Guest) { g.Prog[len(g.Prog)-1] = impl.Ins{Op: 3, X: 16} },
	func(g *impl.Guest) { g.Prog[len(g.Prog)-1] = impl.Ins{Op: 5, X: -1} },
	func(g *impl.Guest) { g.A = -1 },
	func(g *impl.Guest) { g.A = 100 },
	func(g *impl.Guest) { g.Pc = -1 },
	func(g *impl.Guest) { g.Pc = 13 },
	func(g *impl.Guest) { g.Pc = math.MaxInt },
	func(g *impl.Guest) { g.Written = g.Written[:3] },
	func(g *impl.Guest) { g.Written[2] = impl.Slot{Page: 8, Rights: 3} },
	func(g *impl.Guest) { g.Written[2] = impl.Slot{Page: 1} },
	func(g *impl.Guest) { g.Live = append(g.Live, impl.Slot{Page: -1}) },
	func(g *impl.Guest) { g.Live[2] = impl.Slot{Page: 8, Rights: 3} },
	func(g *impl.Guest) { g.Live[2] = impl.Slot{Page: 1, Rights: 4} },
	func(g *impl.Guest) { g.Live = nil },
	func(g *impl.Guest) { g.Ctl = impl.Ctl{Traps: 4} },
	func(g *impl.Guest) { g.Ctl = impl.Ctl{Post: 256, Open: true} },
	func(g *impl.Guest) { g.Ctl = impl.Ctl{Post: 8} },
	func(g *impl.Guest) { g.Ctl = impl.Ctl{Traps: 2, Post: 8, Open: true} },
	func(g *impl.Guest) { g.Pending = -1 },
	func(g *impl.Guest) { g.Pending = 256 },
	func(g *impl.Guest) { g.Exit = impl.Exit{Kind: 5} },
	func(g *impl.Guest) { g.Exit = impl.Exit{N: 1} },
	func(g *impl.Guest) { g.Seen = seenOfLength(41) },
}

func TestBareStepBounds(t *testing.T) {
	at := func(op, x int) impl.Guest { return guestBefore(impl.Ins{Op: op, X: x}) }
	for _, c := range []struct {
		name string
		x    impl.Guest
		want func(b *impl.Bare, x *impl.Guest)
	}{
		{"set", at(1, 8), func(b *impl.Bare, x *impl.Guest) { x.A, x.Pc = 8, 4 }},
		{"add", at(2, 60), func(b *impl.Bare, x *impl.Guest) { x.A, x.Pc = 2, 4 }},
		{"jump", at(8, 1), func(b *impl.Bare, x *impl.Guest) { x.Pc = 4 }},
		{"a load of page 0, which grants reading", at(3, 1), func(b *impl.Bare, x *impl.Guest) { x.A, x.Pc, x.Seen = 26, 4, []int{7, 107, 0, 26} }},
		{"a load of page 1, which grants writing", at(3, 4), func(b *impl.Bare, x *impl.Guest) { x.Exit = impl.Exit{Kind: 1, Page: 1} }},
		{"a load of page 2, which is absent", at(3, 11), func(b *impl.Bare, x *impl.Guest) { x.Exit = impl.Exit{Kind: 1, Page: 2} }},
		{"a load of page 3, which grants both", at(3, 15), func(b *impl.Bare, x *impl.Guest) { x.A, x.Pc, x.Seen = 12, 4, []int{7, 107, 0, 12} }},
		{"a store to page 0, which grants reading", at(4, 0), func(b *impl.Bare, x *impl.Guest) { x.Exit = impl.Exit{Kind: 1, Write: true} }},
		{"a store to page 1, which grants writing", at(4, 7), func(b *impl.Bare, x *impl.Guest) { b.Memory[1][3], x.Pc = 42, 4 }},
		{"a store to page 2, which is absent", at(4, 8), func(b *impl.Bare, x *impl.Guest) { x.Exit = impl.Exit{Kind: 1, Page: 2, Write: true} }},
		{"a store to page 3, which grants both", at(4, 12), func(b *impl.Bare, x *impl.Guest) { b.Memory[2][0], x.Pc = 42, 4 }},
		{"an output with the trap", at(5, 8), func(b *impl.Bare, x *impl.Guest) { x.Exit = impl.Exit{Kind: 3, N: 8} }},
		{"a call", at(6, 99), func(b *impl.Bare, x *impl.Guest) { x.Exit = impl.Exit{Kind: 2, N: 99} }},
		{"a call of 0", at(6, 0), func(b *impl.Bare, x *impl.Guest) { x.Exit = impl.Exit{Kind: 2} }},
		{"a halt without the trap", at(7, 0), func(b *impl.Bare, x *impl.Guest) { x.Halted, x.Pc = true, 4 }},
		{"an interrupt", fullGuest(), func(b *impl.Bare, x *impl.Guest) { x.Pending, x.Seen = 1, []int{7, 107, 0, 105} }},
		{"the end of the program", guestWith(func(g *impl.Guest) { g.Pending, g.Pc = 0, 5 }), func(b *impl.Bare, x *impl.Guest) { x.Halted, x.Pc = true, 6 }},
		{"Pc 12", guestWith(func(g *impl.Guest) { g.Pending, g.Pc = 0, 12 }), func(b *impl.Bare, x *impl.Guest) { x.Halted = true }},
	} {
		for _, at := range inEveryPlace(c.x) {
			want := cloneBare(at.b)
			c.want(&want, &want.Guests[at.g])
			checkStepped(t, at.b, at.g, want, true)
		}
	}
}

// TestBareStepOfFreshGuests steps guests as BareNew makes them, all of whose accesses fault.
func TestBareStepOfFreshGuests(t *testing.T) {
	for _, p := range newProgs() {
		for _, progs := range [][][]impl.Ins{{p}, {p, {{Op: 7}}}, {{{Op: 7}}, p}} {
			b := impl.BareNew(progs)
			for range 15 {
				for g := -1; g < 3; g++ {
					checkStep(t, b, g)
					b, _ = impl.BareStep(b, g)
				}
			}
		}
	}
}

// TestBareStepOfEveryInstruction has every valid instruction as the next one, in every place.
func TestBareStepOfEveryInstruction(t *testing.T) {
	for _, i := range validInstructions() {
		for _, a := range []int{0, 1, 42, 99} {
			for traps := range 4 {
				g := guestBefore(i)
				g.A, g.Ctl = a, impl.Ctl{Traps: traps}
				for _, at := range inEveryPlace(g) {
					want, _ := wantBareStep(at.b, at.g)
					checkStepped(t, at.b, at.g, want, true)
				}
			}
		}
	}
}

func TestBareStepOfEveryState(t *testing.T) {
	for _, i := range []impl.Ins{{Op: 1, X: 8}, {Op: 3, X: 15}, {Op: 4, X: 15}, {Op: 4, X: 10}, {Op: 5, X: 7}, {Op: 6, X: 7}, {Op: 7}, {Op: 8, X: 1}} {
		for _, g := range inEveryState(guestBefore(i)) {
			for _, at := range inEveryPlace(g) {
				checkStep(t, at.b, at.g)
			}
		}
	}
}

// accessed returns what a load or store at the cell of the page in memory is expected to give, if the slot has these rights.
func accessed(at placed, op, addr int, s impl.Slot) impl.Bare {
	want := cloneBare(at.b)
	x, cell := &want.Guests[at.g], addr%4
	readable, writable := s.Rights == 1 || s.Rights == 3, s.Rights == 2 || s.Rights == 3
	switch {
	case op == 3 && readable:
		x.A, x.Pc, x.Seen = at.b.Memory[s.Page][cell], x.Pc+1, append(x.Seen, at.b.Memory[s.Page][cell])
	case op == 4 && writable:
		want.Memory[s.Page][cell], x.Pc = x.A, x.Pc+1
	default:
		x.Exit = impl.Exit{Kind: 1, Page: addr / 4, Write: op == 4}
	}
	return want
}

// TestAccessOfEverySlot has each slot that a table may have at each page, with each cell of it accessed: the access reaches the page to which the slot leads and no other, if the slot grants it, and stops the guest otherwise. What is only written and not in effect does not matter.
func TestAccessOfEverySlot(t *testing.T) {
	open := slices.Repeat([]impl.Slot{{Page: 6, Rights: 3}}, 4)
	for _, s := range everySlotOfAGuest() {
		for addr := range 16 {
			for _, live := range tablesAround(addr/4, s) {
				for _, written := range [][]impl.Slot{slices.Repeat([]impl.Slot{{Page: -1}}, 4), open} {
					for _, op := range []int{3, 4} {
						for _, at := range inEveryPlace(accessGuest(op, addr, written, live)) {
							checkStepped(t, at.b, at.g, accessed(at, op, addr, s), true)
						}
					}
				}
			}
		}
	}
}

// slotsThatAreNotValid have a page outside the machine, no rights, rights without a page, or numbers that are no rights.
func slotsThatAreNotValid() []impl.Slot {
	slots := []impl.Slot{{Page: -1, Rights: 1}, {Page: -1, Rights: 3}, {Page: 8, Rights: 3}, {Page: -2, Rights: 3}, {Page: 2, Rights: 4}, {Page: 2, Rights: -1}, {Page: 1 << 32, Rights: 3}, {Page: math.MinInt, Rights: 3}, {Page: math.MaxInt, Rights: 3}}
	for page := range 8 {
		slots = append(slots, impl.Slot{Page: page})
	}
	return slots
}

// TestAccessOfSlotsThatAreNotValid has slots without rights, and rights without a page: the machine is not valid, and nothing happens.
func TestAccessOfSlotsThatAreNotValid(t *testing.T) {
	for _, s := range slotsThatAreNotValid() {
		for addr := range 16 {
			for _, op := range []int{3, 4} {
				open := slices.Repeat([]impl.Slot{{Page: 6, Rights: 3}}, 4)
				for _, live := range tablesAround(addr/4, s) {
					for _, at := range inEveryPlace(accessGuest(op, addr, open, live)) {
						checkRejected(t, at.b, at.g)
					}
				}
			}
		}
	}
}

// TestStoreOfEveryValue stores each value of a cell, and loads it again through another slot that leads to the same page.
func TestStoreOfEveryValue(t *testing.T) {
	live := []impl.Slot{{Page: 4, Rights: 2}, {Page: 4, Rights: 1}, {Page: 4, Rights: 3}, {Page: -1}}
	for v := range 100 {
		for cell := range 4 {
			x := accessGuest(4, cell, live, live)
			x.Prog, x.Pc = []impl.Ins{{Op: 4, X: cell}, {Op: 1, X: 5}, {Op: 3, X: 4 + cell}, {Op: 1, X: 6}, {Op: 3, X: 8 + cell}, {Op: 3, X: cell}}, 0
			x.A, x.Seen = v, nil
			for _, at := range inEveryPlace(x) {
				want := cloneBare(at.b)
				want.Memory[4][cell] = v
				after := &want.Guests[at.g]
				after.A, after.Pc, after.Seen, after.Exit = v, 5, []int{v, v}, impl.Exit{Kind: 1}
				got, done := impl.BareSteps(at.b, slices.Repeat([]int{at.g}, 7))
				if !equalBares(got, want) || !slices.Equal(done, []bool{true, true, true, true, true, true, false}) {
					t.Errorf("after a store of %d to cell %d through one slot, and loads through others, the machine is %+v, %v; want %+v", v, cell, got, done, want)
				}
			}
		}
	}
}

// TestGuestsShareAPage lets one guest store what the other one then loads, where their tables lead to the same page, and to different ones.
func TestGuestsShareAPage(t *testing.T) {
	for _, from := range []int{0, 1} {
		to := 1 - from
		for page := range 8 {
			for other := range 8 {
				guests := make([]impl.Guest, 2)
				guests[from] = accessGuest(4, 9, nil, tablesAround(2, impl.Slot{Page: page, Rights: 2})[0])
				guests[to] = accessGuest(3, 1, nil, tablesAround(0, impl.Slot{Page: other, Rights: 1})[0])
				guests[0].Written, guests[1].Written = guests[0].Live, guests[1].Live
				b := bareOf(guests...)
				value := b.Memory[other][1]
				if page == other {
					value = 42
				}
				got, done := impl.BareSteps(b, []int{from, to})
				want := cloneBare(b)
				want.Memory[page][1] = 42
				want.Guests[from].Pc++
				want.Guests[to].Pc++
				want.Guests[to].A, want.Guests[to].Seen = value, append(want.Guests[to].Seen, value)
				if !equalBares(got, want) || !slices.Equal(done, []bool{true, true}) {
					t.Errorf("guest %d stores to page %d, guest %d loads from page %d: %+v, %v; want %+v", from, page, to, other, got, done, want)
				}
			}
		}
	}
}

// TestOutputs has each value, under each set of traps, after each number of values put out: a value is put out or reported in an exit, but never both, and lost only where 40 are there already.
func TestOutputs(t *testing.T) {
	for n := range 100 {
		for traps := range 4 {
			for _, length := range []int{0, 1, 2, 38, 39, 40} {
				x := guestBefore(impl.Ins{Op: 5, X: n})
				x.Ctl = impl.Ctl{Traps: traps, Open: true}
				for _, at := range inEveryPlace(x) {
					at.b.Outs = seenOfLength(length)
					want := cloneBare(at.b)
					after := &want.Guests[at.g]
					switch {
					case traps == 1 || traps == 3:
						after.Exit = impl.Exit{Kind: 3, N: n}
					case length < 40:
						want.Outs = append(want.Outs, n)
						after.Pc++
					default:
						after.Pc++
					}
					checkStepped(t, at.b, at.g, want, true)
				}
			}
		}
	}
}

func TestHalts(t *testing.T) {
	for traps := range 4 {
		for pc := range 13 {
			for _, length := range []int{1, 7, 12} {
				x := guestWith(func(g *impl.Guest) {
					g.Prog, g.Pc, g.Pending, g.Ctl = slices.Repeat([]impl.Ins{{Op: 7}}, length), pc, 0, impl.Ctl{Traps: traps}
				})
				for _, at := range inEveryPlace(x) {
					want := cloneBare(at.b)
					after := &want.Guests[at.g]
					if traps >= 2 {
						after.Exit = impl.Exit{Kind: 4}
					} else {
						after.Halted, after.Pc = true, min(pc+1, 12)
					}
					checkStepped(t, at.b, at.g, want, true)
					checkRejected(t, want, at.g)
				}
			}
		}
	}
}

// TestCalls has each value under each set of traps: a call always stops the guest.
func TestCalls(t *testing.T) {
	for n := range 100 {
		for traps := range 4 {
			x := guestBefore(impl.Ins{Op: 6, X: n})
			x.Ctl.Traps, x.Ctl.Post = traps, 0
			for _, at := range inEveryPlace(x) {
				want := cloneBare(at.b)
				want.Guests[at.g].Exit = impl.Exit{Kind: 2, N: n}
				checkStepped(t, at.b, at.g, want, true)
				checkRejected(t, want, at.g)
			}
		}
	}
}

// TestInterruptsBeforeSteps takes every set of pending interrupts in front of each kind of step: no other part of the machine changes until all are taken.
func TestInterruptsBeforeSteps(t *testing.T) {
	for _, i := range []impl.Ins{{Op: 1, X: 8}, {Op: 3, X: 15}, {Op: 4, X: 15}, {Op: 4}, {Op: 5, X: 7}, {Op: 6, X: 7}, {Op: 7}} {
		for p := range 256 {
			x := guestBefore(i)
			x.Pending, x.Seen = p, nil
			b := bareOf(otherRunner(), x)
			b.Pending = 255 - p
			want := cloneBare(b)
			after := &want.Guests[1]
			for _, n := range wantPending(p) {
				after.Pending, after.Seen = after.Pending-powers[n], append(after.Seen, 100+n)
				checkStepped(t, b, 1, want, true)
				b, _ = impl.BareStep(b, 1)
			}
			final, _ := wantBareStep(want, 1)
			checkStepped(t, b, 1, final, true)
		}
	}
}

// TestSeenAtItsLimit loads and takes interrupts around the most values that a guest observes: what is not recorded any more is still loaded and taken.
func TestSeenAtItsLimit(t *testing.T) {
	for _, c := range []struct{ length, loaded, interrupted int }{{0, 1, 1}, {38, 39, 39}, {39, 40, 40}, {40, 40, 40}} {
		x := guestBefore(impl.Ins{Op: 3, X: 13})
		x.Seen = seenOfLength(c.length)
		for _, at := range inEveryPlace(x) {
			got, ok := impl.BareStep(at.b, at.g)
			after := got.Guests[at.g]
			if !ok || after.A != 10 || after.Pc != 4 || !slices.Equal(after.Seen, append(seenOfLength(c.length), 10)[:c.loaded]) {
				t.Errorf("a load of 10 after %d values gives %+v, %v", c.length, after, ok)
			}
			at.b.Guests[at.g].Pending = 4
			got, ok = impl.BareStep(at.b, at.g)
			after = got.Guests[at.g]
			if !ok || after.Pending != 0 || after.Pc != 3 || !slices.Equal(after.Seen, append(seenOfLength(c.length), 102)[:c.interrupted]) {
				t.Errorf("interrupt 2 after %d values gives %+v, %v", c.length, after, ok)
			}
		}
	}
}

// TestGuestsThatDoNotStep has guests that are stopped by every exit, halted, or both, in front of each kind of step and with interrupts pending.
func TestGuestsThatDoNotStep(t *testing.T) {
	for _, i := range []impl.Ins{{Op: 1, X: 8}, {Op: 3, X: 15}, {Op: 4, X: 15}, {Op: 5, X: 7}, {Op: 6, X: 7}, {Op: 7}} {
		for _, e := range validExits() {
			for _, halted := range []bool{false, true} {
				for _, pending := range []int{0, 33} {
					x := guestBefore(i)
					x.Exit, x.Halted, x.Pending = e, halted, pending
					for _, at := range inEveryPlace(x) {
						if e.Kind != 0 || halted {
							checkRejected(t, at.b, at.g)
						} else {
							want, _ := wantBareStep(at.b, at.g)
							checkStepped(t, at.b, at.g, want, true)
						}
					}
				}
			}
		}
	}
}

func TestBareStepOfGuestsThatDoNotExist(t *testing.T) {
	for _, at := range stepMachines() {
		for _, g := range []int{-1, -2, len(at.b.Guests), len(at.b.Guests) + 1, 1 << 32, 1 - 1<<32, math.MinInt, math.MinInt + 1, math.MaxInt, math.MaxInt - 1} {
			checkRejected(t, at.b, g)
		}
		// A guest that lies behind the ones there are does not exist either.
		one := at.b
		one.Guests = at.b.Guests[:1]
		checkRejected(t, one, 1)
	}
}

// TestBareStepOfMachinesThatAreNotValid has machines that are not valid in one field each, for guests that could step otherwise.
func TestBareStepOfMachinesThatAreNotValid(t *testing.T) {
	for _, i := range []impl.Ins{{Op: 1, X: 8}, {Op: 3, X: 15}, {Op: 4, X: 15}, {Op: 4, X: 10}, {Op: 5, X: 7}, {Op: 6, X: 7}, {Op: 7}, {Op: 8, X: 1}} {
		for _, pending := range []int{0, 33} {
			runner := func() impl.Bare {
				x := guestBefore(i)
				x.Pending = pending
				return bareOf(x, otherRunner())
			}
			for _, change := range invalidating {
				b := runner()
				change(&b)
				for g := -1; g < 4; g++ {
					checkRejected(t, b, g)
				}
			}
			for _, change := range invalidatingGuest {
				for wrong := range 2 {
					b := runner()
					change(&b.Guests[wrong])
					for g := -1; g < 4; g++ {
						checkRejected(t, b, g)
					}
				}
			}
		}
	}
}

func TestBareStepOfSomeMachines(t *testing.T) {
	for _, b := range someBares() {
		for g := range len(b.Guests) + 2 {
			checkStep(t, b, g-1)
		}
	}
	for _, x := range someGuests() {
		for _, at := range inEveryPlace(x) {
			checkStep(t, at.b, at.g)
			checkStep(t, at.b, 1-at.g)
		}
	}
	for _, at := range stepMachines() {
		checkStep(t, at.b, at.g)
		checkStep(t, at.b, 1-at.g)
	}
}

// changedCells returns the page and cell of each cell in which two memories of equal form differ.
func changedCells(before, after [][]int) [][2]int {
	var changed [][2]int
	for page := range before {
		for cell := range before[page] {
			if before[page][cell] != after[page][cell] {
				changed = append(changed, [2]int{page, cell})
			}
		}
	}
	return changed
}

// checkWrites is the promise itself, for one step of guest g: no cell changes but the one to which the next instruction stores, and that one only if the live table grants writing. It returns whether a cell changed.
func checkWrites(t *testing.T, before, after impl.Bare, g int) bool {
	t.Helper()
	changed := changedCells(before.Memory, after.Memory)
	if len(changed) == 0 {
		return false
	}
	x := before.Guests[g]
	next := wantNext(x)
	s := x.Live[next.X/4]
	if wantKind(x) != 4 || s.Rights < 2 || len(changed) != 1 || changed[0] != [2]int{s.Page, next.X % 4} || after.Memory[s.Page][next.X%4] != x.A {
		t.Errorf("guest %d of %+v changed the cells %v: %+v", g, before, changed, after)
	}
	return true
}

// tossed returns a sequence of numbers below n that looks irregular and is always the same.
func tossed(seed uint64) func(n int) int {
	return func(n int) int {
		seed = seed*6364136223846793005 + 1442695040888963407
		return int(seed>>33) % n
	}
}

// tossedGuest returns a valid guest with a program of loads and stores and some other instructions.
func tossedGuest(toss func(n int) int) impl.Guest {
	slots := everySlotOfAGuest()
	x := impl.Guest{A: toss(100), Ctl: impl.Ctl{Traps: toss(4)}, Pending: toss(4)}
	for range 12 {
		i := impl.Ins{Op: 3 + toss(2), X: toss(16)}
		if toss(3) == 0 {
			o := operations[toss(len(operations))]
			i = impl.Ins{Op: o.op, X: toss(o.most + 1)}
		}
		x.Prog = append(x.Prog, i)
	}
	for range 4 {
		x.Live, x.Written = append(x.Live, slots[toss(len(slots))]), append(x.Written, slots[toss(len(slots))])
	}
	x.Ctl.Open = toss(2) == 0
	return x
}

// TestGuestsWriteOnlyWhereTheirTablePermits runs many pairs of guests. A guest that was stopped goes on with its next instruction.
func TestGuestsWriteOnlyWhereTheirTablePermits(t *testing.T) {
	toss, writes, faults := tossed(18), 0, 0
	for range 600 {
		b := bareOf(tossedGuest(toss), tossedGuest(toss))
		for range 40 {
			g := toss(2)
			checkStep(t, b, g)
			after, ok := impl.BareStep(b, g)
			if checkWrites(t, b, after, g) {
				writes++
			}
			if wantBareOk(b) && !wantBareOk(after) {
				t.Errorf("guest %d makes %+v invalid: %+v", g, b, after)
			}
			if !ok && !equalBares(after, b) || !equalGuests(after.Guests[1-g], b.Guests[1-g]) || after.Pending != b.Pending {
				t.Errorf("guest %d of %+v, %v, changed more than its own state: %+v", g, b, ok, after)
			}
			b = after
			if x := &b.Guests[g]; x.Exit != (impl.Exit{}) {
				if x.Exit.Write {
					faults++
				}
				x.Exit, x.Pc = impl.Exit{}, min(x.Pc+1, 12)
			}
		}
	}
	if writes < 1000 || faults < 500 {
		t.Errorf("only %d writes and %d faults", writes, faults)
	}
}

// stepLists are lists of guests, also of ones that do not exist.
func stepLists() [][]int {
	return [][]int{
		nil, {}, make([]int, 0, 5), {0}, {1}, {0, 0}, {1, 1}, {0, 1}, {1, 0}, {0, 1, 0, 1}, {1, 1, 0, 0, 1}, {-1}, {2}, {math.MinInt}, {math.MaxInt},
		{0, -1, 0, 2, 1, math.MinInt, 1, math.MaxInt, 0, 1 << 32, 1}, {2, 2, -1, 0}, {5, 4, 3, 2, 1, 0},
		slices.Repeat([]int{0}, 20), slices.Repeat([]int{1}, 20), slices.Repeat([]int{1, 0}, 60), slices.Repeat([]int{0, 1, 1, 2}, 40),
	}
}

func TestStepsOfLists(t *testing.T) {
	for _, at := range oneOfEachStep() {
		for _, list := range stepLists() {
			checkSteps(t, at.b, list)
		}
	}
	for _, b := range someBares() {
		for _, list := range stepLists() {
			checkSteps(t, b, list)
		}
	}
}

// TestBareStepsOneAfterAnother expects BareSteps of a list to be BareStep of each of its numbers, with the booleans in the order of the list.
func TestBareStepsOneAfterAnother(t *testing.T) {
	toss := tossed(3)
	for range 100 {
		b := bareOf(tossedGuest(toss), tossedGuest(toss))
		var list []int
		want, wantDone := b, []bool{}
		for range 30 {
			g := toss(4) - 1
			next, ok := impl.BareStep(want, g)
			list, want, wantDone = append(list, g), next, append(wantDone, ok)
			if got, done := impl.BareSteps(b, list); !equalBares(got, want) || !slices.Equal(done, wantDone) {
				t.Errorf("BareSteps of guests %v of %+v = %+v, %v; want %+v, %v", list, b, got, done, want, wantDone)
			}
		}
	}
}

// TestStepsThatNeverEnd runs a guest in a loop of two instructions, beyond every limit: each step is executed, and the first 40 values are put out.
func TestStepsThatNeverEnd(t *testing.T) {
	b := impl.BareNew([][]impl.Ins{{{Op: 7}}, {{Op: 5, X: 3}, {Op: 8}}})
	for _, n := range []int{0, 1, 2, 3, 40, 78, 79, 80, 81, 82, 100, 101, 255, 1000, 1001} {
		want := cloneBare(b)
		want.Outs = slices.Repeat([]int{3}, min((n+1)/2, 40))
		want.Guests[1].Pc = n % 2
		got, done := impl.BareSteps(b, slices.Repeat([]int{1}, n))
		if !equalBares(got, want) || len(done) != n || slices.Contains(done, false) {
			t.Errorf("after %d steps of a loop the machine is %+v, %v; want %+v", n, got, done, want)
		}
	}
}

func TestBareStepsBounds(t *testing.T) {
	prog := []impl.Ins{{Op: 1, X: 5}, {Op: 5, X: 3}, {Op: 6, X: 9}}
	b := impl.BareNew([][]impl.Ins{prog, {{Op: 7}}})
	for _, c := range []struct {
		list  []int
		done  []bool
		pcs   [2]int
		outs  []int
		exits [2]int
	}{
		{nil, nil, [2]int{0, 0}, nil, [2]int{0, 0}},
		{[]int{}, nil, [2]int{0, 0}, nil, [2]int{0, 0}},
		{[]int{0}, []bool{true}, [2]int{1, 0}, nil, [2]int{0, 0}},
		{[]int{1}, []bool{true}, [2]int{0, 1}, nil, [2]int{0, 0}},
		{[]int{0, 0}, []bool{true, true}, [2]int{2, 0}, []int{3}, [2]int{0, 0}},
		{[]int{1, 1, 0}, []bool{true, false, true}, [2]int{1, 1}, nil, [2]int{0, 0}},
		{[]int{0, 0, 0, 0, 1}, []bool{true, true, true, false, true}, [2]int{2, 1}, []int{3}, [2]int{2, 0}},
		{[]int{-1, 0, 2, 0, 7, 0, 0}, []bool{false, true, false, true, false, true, false}, [2]int{2, 0}, []int{3}, [2]int{2, 0}},
		{[]int{math.MinInt, math.MaxInt}, []bool{false, false}, [2]int{0, 0}, nil, [2]int{0, 0}},
	} {
		got, done := impl.BareSteps(b, c.list)
		if !slices.Equal(done, c.done) || !slices.Equal(got.Outs, c.outs) || [2]int{got.Guests[0].Pc, got.Guests[1].Pc} != c.pcs || [2]int{got.Guests[0].Exit.Kind, got.Guests[1].Exit.Kind} != c.exits {
			t.Errorf("BareSteps of guests %v = %+v, %v; want %v", c.list, got, done, c)
		}
	}
}

// checkAsksSteps compares Runnable, SeenOf and ExitOf with what chapter 18 says, and looks at the memory of the machine and of the results.
func checkAsksSteps(t *testing.T, b impl.Bare, g int) {
	t.Helper()
	x, _ := wantGuestAt(b, g)
	able := wantRunnable(b)
	for _, spare := range spares {
		given := bareWithSpare(b, spare)
		kept := keepsBare(given)
		runnable, seen := impl.Runnable(given), impl.SeenOf(given, g)
		runnableAgain, seenAgain := impl.Runnable(given), impl.SeenOf(given, g)
		if !slices.Equal(runnable, able) || !slices.Equal(runnableAgain, able) {
			t.Errorf("Runnable(%+v) = %v, and then %v; want %v", b, runnable, runnableAgain, able)
		}
		if !slices.Equal(seen, x.Seen) || !slices.Equal(seenAgain, x.Seen) {
			t.Errorf("SeenOf(%+v, %d) = %v, and then %v; want %v", b, g, seen, seenAgain, x.Seen)
		}
		for range 2 {
			if got := impl.ExitOf(given, g); got != x.Exit {
				t.Errorf("ExitOf(%+v, %d) = %+v; want %+v", b, g, got, x.Exit)
			}
		}
		spoilNumbers(runnable)
		spoilNumbers(seen)
		if !kept() {
			t.Errorf("Runnable, SeenOf or ExitOf of %+v and guest %d, spare %d, or writing to its result, changes its argument", b, g, spare)
		}
		spoilBare(given)
		if !slices.Equal(runnableAgain, able) || !slices.Equal(seenAgain, x.Seen) {
			t.Errorf("Runnable or SeenOf of %+v and guest %d, spare %d, changes with its argument or with another result", b, g, spare)
		}
	}
}

func TestAsksSteps(t *testing.T) {
	for _, b := range someBares() {
		for _, g := range append(indexesOutside(len(b.Guests)), 0, 1, 2, 3) {
			checkAsksSteps(t, b, g)
		}
	}
	for _, at := range oneOfEachStep() {
		for g := -1; g < 3; g++ {
			checkAsksSteps(t, at.b, g)
		}
	}
}

func TestRunnableBounds(t *testing.T) {
	able, halted := thirdGuest(), guestWith(func(g *impl.Guest) { g.Halted = true })
	stopped := guestWith(func(g *impl.Guest) { g.Exit = impl.Exit{Kind: 2} })
	wrong := impl.Guest{A: -1, Pc: math.MaxInt, Pending: -1}
	for _, c := range []struct {
		guests []impl.Guest
		want   []int
	}{
		{nil, nil},
		{[]impl.Guest{}, nil},
		{[]impl.Guest{able}, []int{0}},
		{[]impl.Guest{halted}, nil},
		{[]impl.Guest{stopped}, nil},
		{[]impl.Guest{able, able}, []int{0, 1}},
		{[]impl.Guest{able, halted}, []int{0}},
		{[]impl.Guest{stopped, able}, []int{1}},
		{[]impl.Guest{stopped, halted}, nil},
		{[]impl.Guest{wrong}, []int{0}},
		{[]impl.Guest{{}, wrong}, []int{0, 1}},
		{[]impl.Guest{able, stopped, able, halted, wrong, able}, []int{0, 2, 4, 5}},
		{make([]impl.Guest, 3, 9), []int{0, 1, 2}},
		{guestsOfExits(), []int{0}},
	} {
		for _, b := range []impl.Bare{bareOf(c.guests...), {Guests: c.guests}, {Guests: c.guests, Outs: seenOfLength(50), Pending: 256}} {
			if got := impl.Runnable(b); !slices.Equal(got, c.want) {
				t.Errorf("Runnable(%+v) = %v; want %v", b, got, c.want)
			}
		}
	}
}

// guestsOfExits returns a guest for each kind of exit and for exits of no kind. Only the first one can run.
func guestsOfExits() []impl.Guest {
	var all []impl.Guest
	for _, e := range nextExits {
		all = append(all, guestWith(func(g *impl.Guest) { g.Exit = e }))
	}
	return all
}

// TestRunnableAgreesWithBareStep expects exactly the guests that Runnable names to step, if the machine is valid.
func TestRunnableAgreesWithBareStep(t *testing.T) {
	for _, at := range stepMachines() {
		able := impl.Runnable(at.b)
		for g := -1; g < 3; g++ {
			if _, ok := impl.BareStep(at.b, g); ok != (wantBareOk(at.b) && slices.Contains(able, g)) {
				t.Errorf("BareStep of guest %d of %+v returns %v, but Runnable returns %v", g, at.b, ok, able)
			}
		}
	}
}

func TestSeenOfAndExitOfBounds(t *testing.T) {
	three := bareWith(func(b *impl.Bare) { b.Guests = append(b.Guests, thirdGuest()) })
	behind := bareWith(func(b *impl.Bare) { b.Guests = b.Guests[:1] })
	for _, c := range []struct {
		b    impl.Bare
		g    int
		seen []int
		exit impl.Exit
	}{
		{fullBare(), 0, []int{7, 107, 0}, impl.Exit{}},
		{fullBare(), 1, []int{1, 2}, impl.Exit{Kind: 2, N: 8}},
		{fullBare(), 2, nil, impl.Exit{}},
		{fullBare(), -1, nil, impl.Exit{}},
		{fullBare(), 1 << 32, nil, impl.Exit{}},
		{fullBare(), math.MinInt, nil, impl.Exit{}},
		{fullBare(), math.MaxInt, nil, impl.Exit{}},
		{behind, 1, nil, impl.Exit{}},
		{three, 2, []int{9}, impl.Exit{}},
		{three, 3, nil, impl.Exit{}},
		{impl.Bare{}, 0, nil, impl.Exit{}},
		{impl.Bare{Guests: []impl.Guest{{A: -1, Exit: impl.Exit{Kind: -3, Page: 9, Write: true, N: 7}, Seen: seenOfLength(50)}}, Pending: -1}, 0, seenOfLength(50), impl.Exit{Kind: -3, Page: 9, Write: true, N: 7}},
	} {
		if seen := impl.SeenOf(c.b, c.g); !slices.Equal(seen, c.seen) {
			t.Errorf("SeenOf(%+v, %d) = %v; want %v", c.b, c.g, seen, c.seen)
		}
		if exit := impl.ExitOf(c.b, c.g); exit != c.exit {
			t.Errorf("ExitOf(%+v, %d) = %+v; want %+v", c.b, c.g, exit, c.exit)
		}
	}
}

func TestExitOfEveryExit(t *testing.T) {
	for _, e := range slices.Concat(validExits(), someExits()) {
		b := impl.Bare{Guests: []impl.Guest{{Exit: e}, {Exit: impl.Exit{Kind: 9}}}}
		if got := impl.ExitOf(b, 0); got != e {
			t.Errorf("ExitOf of a guest with %+v = %+v", e, got)
		}
	}
}

// TestStepsAndMemory takes each kind of step, and rejected ones, and looks at the memory of arguments and results.
func TestStepsAndMemory(t *testing.T) {
	for _, at := range oneOfEachStep() {
		for g := -1; g < 3; g++ {
			checkBareStep(t, stepOfGuest(g), at.b)
		}
		for _, list := range [][]int{nil, {at.g}, {0, 1}, {1, 1, 0}, {-1, 2}} {
			checkBareStep(t, stepsOfGuests(list), at.b)
		}
	}
	for _, b := range someBares() {
		for _, step := range []bareStep{stepOfGuest(0), stepOfGuest(1), stepOfGuest(-1), stepsOfGuests(nil), stepsOfGuests([]int{0, 1, 1})} {
			checkBareStep(t, step, b)
		}
	}
}

// TestBareStepsAndTheirList looks at the memory of the list and of the booleans.
func TestBareStepsAndTheirList(t *testing.T) {
	for _, at := range oneOfEachStep() {
		for _, list := range stepLists() {
			for _, spare := range spares {
				given := listWithSpare(list, seenOfLength(spare))
				before := slices.Clone(given[:cap(given)])
				_, done := impl.BareSteps(at.b, given)
				_, again := impl.BareSteps(at.b, given)
				want := slices.Clone(again)
				for i := range done[:cap(done)] {
					done[:cap(done)][i] = !done[:cap(done)][i]
				}
				if !slices.Equal(given[:cap(given)], before) {
					t.Errorf("BareSteps of guests %v, spare %d, modified its list", list, spare)
				}
				if !slices.Equal(again, want) || len(again) != len(list) {
					t.Errorf("BareSteps of guests %v, spare %d: %v changes with another result; want %v", list, spare, again, want)
				}
			}
		}
	}
}

// TestStepsOfOneMemory has a machine whose slices share their memory: a step of one guest does not change the other one, and the argument stays as it is.
func TestStepsOfOneMemory(t *testing.T) {
	for _, i := range []impl.Ins{{Op: 3, X: 1}, {Op: 4, X: 14}, {Op: 5, X: 7}, {Op: 1, X: 7}} {
		b := oneMemory()
		for g := range b.Guests {
			b.Guests[g].Prog, b.Guests[g].Pending, b.Guests[g].Ctl = slices.Repeat([]impl.Ins{i}, 12), 0, impl.Ctl{}
			b.Guests[g].Live = slices.Repeat([]impl.Slot{{Page: 5, Rights: 3}}, 4)
		}
		kept := keepsBare(b)
		for g := range b.Guests {
			checkStep(t, b, g)
			got, _ := impl.BareStep(b, g)
			checkBareApart(t, "BareStep of a machine of one memory", got)
			if !kept() {
				t.Errorf("a step with %v, or writing to its result, changes the machine", i)
			}
		}
		checkSteps(t, b, []int{0, 1, 1, 0})
	}
}

// TestStepsTwice takes two steps from the same machine, whose slices have a spare capacity: neither is in the other result.
func TestStepsTwice(t *testing.T) {
	for _, at := range oneOfEachStep() {
		b := bareWithSpare(at.b, 50)
		first, _ := impl.BareStep(b, at.g)
		second, _ := impl.BareStep(b, 1-at.g)
		third, _ := impl.BareStep(first, at.g)
		wantFirst, _ := wantBareStep(at.b, at.g)
		wantSecond, _ := wantBareStep(at.b, 1-at.g)
		wantThird, _ := wantBareStep(wantFirst, at.g)
		if !equalBares(first, wantFirst) || !equalBares(second, wantSecond) || !equalBares(third, wantThird) {
			t.Errorf("steps of %+v give %+v, %+v and %+v", at.b, first, second, third)
		}
	}
}

// TestStepsOfNilAndEmpty has the same machine with slices that are nil and empty.
func TestStepsOfNilAndEmpty(t *testing.T) {
	for _, i := range []impl.Ins{{Op: 3, X: 1}, {Op: 4, X: 5}, {Op: 5, X: 7}, {Op: 7}} {
		with, without := guestBefore(i), guestBefore(i)
		with.Seen, without.Seen, with.Ctl, without.Ctl = []int{}, nil, impl.Ctl{}, impl.Ctl{}
		a, b := bareOf(with), bareOf(without)
		a.Outs, b.Outs = make([]int, 0, 3), nil
		for g := -1; g < 2; g++ {
			checkSameBare(t, stepOfGuest(g).call(a), stepOfGuest(g).call(b), true)
			checkStep(t, a, g)
			checkStep(t, b, g)
		}
	}
	for _, b := range []impl.Bare{{}, {Memory: [][]int{}, Guests: []impl.Guest{}, Outs: []int{}}} {
		checkRejected(t, b, 0)
		checkSteps(t, b, nil)
		checkSteps(t, b, []int{})
		checkSteps(t, b, []int{0, 1})
		if len(impl.Runnable(b)) != 0 || len(impl.SeenOf(b, 0)) != 0 || impl.ExitOf(b, 0) != (impl.Exit{}) {
			t.Errorf("Runnable, SeenOf or ExitOf of %+v finds a guest", b)
		}
	}
}

// TestStepsKeepNoState repeats calls, also after others with different arguments.
func TestStepsKeepNoState(t *testing.T) {
	all := oneOfEachStep()
	for range 2 {
		for i, at := range all {
			for _, x := range []placed{at, all[len(all)-1-i], at, at} {
				checkStep(t, x.b, x.g)
				checkRejected(t, x.b, -1)
				checkSteps(t, x.b, []int{1 - x.g, x.g, x.g})
				if got := impl.Runnable(x.b); !slices.Equal(got, wantRunnable(x.b)) {
					t.Errorf("Runnable(%+v) = %v", x.b, got)
				}
				if got := impl.SeenOf(x.b, x.g); !slices.Equal(got, x.b.Guests[x.g].Seen) {
					t.Errorf("SeenOf(%+v, %d) = %v", x.b, x.g, got)
				}
				if got := impl.ExitOf(x.b, x.g); got != x.b.Guests[x.g].Exit {
					t.Errorf("ExitOf(%+v, %d) = %+v", x.b, x.g, got)
				}
			}
		}
	}
}
