package tests

import (
	"fmt"
	"math"
	"slices"
	"testing"

	"loop.example/g00975/impl"
)

// kindsOfOps are the kinds of the next step as chapter 16 lists them, for the operations that have a kind of their own.
var kindsOfOps = map[int]int{3: 3, 4: 4, 5: 5, 6: 6, 7: 7}

// noOps are numbers that are no operation; the low bits of some of them would be one.
var noOps = []int{0, -1, -3, -4, -8, 9, 10, 16, 1<<32 + 3, 1<<32 + 7, 3 - 1<<32, math.MinInt, math.MinInt + 3, math.MaxInt, math.MaxInt - 3}

// cellsAround are numbers at both ends of the range of a cell and on both sides of it, and the extremes.
var cellsAround = []int{math.MinInt, math.MinInt + 1, -1 << 32, -100, -99, -2, -1, 0, 1, 2, 49, 50, 51, 98, 99, 100, 101, 199, 200, 1 << 32, 1<<32 + 5, math.MaxInt - 1, math.MaxInt}

// The functions wantNext to wantAddress do what chapter 16 says, without the help of the program.

func wantNext(g impl.Guest) impl.Ins {
	if missing(len(g.Prog), g.Pc) {
		return impl.Ins{Op: 7}
	}
	return g.Prog[g.Pc]
}

func wantKind(g impl.Guest) int {
	if !wantCanRun(g) {
		return 0
	}
	if wantTakesIrq(g) {
		return 1
	}
	if kind, own := kindsOfOps[wantNext(g).Op]; own {
		return kind
	}
	return 2
}

func wantMoved(g impl.Guest) impl.Guest {
	want := cloneGuest(g)
	want.Pc = 12
	if g.Pc < 12 {
		want.Pc = g.Pc + 1
	}
	return want
}

func wantPlainly(g impl.Guest) impl.Guest {
	want, i := cloneGuest(g), wantNext(g)
	if wantKind(g) != 2 {
		return want
	}
	if missing(100, g.A) || missing(100, i.X) {
		return wantMoved(g)
	}
	switch i.Op {
	case 1:
		want.A = i.X
	case 2:
		if want.A += i.X; want.A > 99 {
			want.A -= 100
		}
	case 8:
		if g.A == 0 {
			want.Pc = i.X
			return want
		}
	}
	return wantMoved(want)
}

func wantLoaded(g impl.Guest, v int) impl.Guest {
	want := wantMoved(wantSaw(g, v))
	want.A = v
	return want
}

func wantHeld(g impl.Guest) impl.Guest {
	want := wantMoved(g)
	want.Halted = true
	return want
}

func wantAddress(g impl.Guest) int {
	if kind := wantKind(g); kind != 3 && kind != 4 {
		return -1
	}
	return wantNext(g).X
}

var (
	movedStep   = guestStep{"Moved", impl.Moved, wantMoved}
	plainlyStep = guestStep{"Plainly", impl.Plainly, wantPlainly}
	storedStep  = guestStep{"Stored", impl.Stored, wantMoved}
	heldStep    = guestStep{"Held", impl.Held, wantHeld}
)

func loadedStep(v int) guestStep {
	return guestStep{fmt.Sprintf("Loaded with %d", v),
		func(g impl.Guest) impl.Guest { return impl.Loaded(g, v) },
		func(g impl.Guest) impl.Guest { return wantLoaded(g, v) }}
}

// nextSteps are each kind of step of chapter 16.
var nextSteps = []guestStep{movedStep, plainlyStep, storedStep, heldStep, loadedStep(0), loadedStep(7), loadedStep(99), loadedStep(100), loadedStep(-1), loadedStep(math.MinInt), loadedStep(math.MaxInt)}

// checkResult compares what a step returns with what is expected, and leaves the memory to checkGuestStep, which is slower.
func checkResult(t *testing.T, step guestStep, g impl.Guest) {
	t.Helper()
	if got, want := step.call(g), step.want(g); !equalGuests(got, want) {
		t.Errorf("%s of %+v = %+v; want %+v", step.name, g, got, want)
	}
}

// checkNext compares WantOf and Address with what chapter 16 says, and with the promise.
func checkNext(t *testing.T, g impl.Guest) {
	t.Helper()
	kind := impl.WantOf(g)
	if want := wantKind(g); kind != want {
		t.Errorf("WantOf(%+v) = %d; want %d", g, kind, want)
	}
	if hasNext := kind != impl.WtNone; hasNext != impl.CanRun(g) {
		t.Errorf("WantOf(%+v) = %d, but CanRun returns %v", g, kind, impl.CanRun(g))
	}
	if got, want := impl.Address(g), wantAddress(g); got != want {
		t.Errorf("Address(%+v) = %d; want %d", g, got, want)
	}
}

// checkNextModifiesNothing looks at the memory of the argument of WantOf and Address, and calls them again with instructions behind the program.
func checkNextModifiesNothing(t *testing.T, g impl.Guest) {
	t.Helper()
	for _, spare := range []int{0, 1, 50} {
		given, whole := guestWithSpare(g, spare)
		before := cloneGuest(whole)
		for range 2 {
			checkNext(t, given)
		}
		if !equalGuests(whole, before) || !equalGuests(given, g) {
			t.Errorf("WantOf or Address of %+v, spare %d, modified its argument", g, spare)
		}
	}
}

// guestBefore returns a valid guest in front of the instruction i, valid or not. It can run, and has no interrupt pending.
func guestBefore(i impl.Ins) impl.Guest {
	return guestWith(func(g *impl.Guest) { g.Prog, g.Pending = withIns(g.Prog, g.Pc, i), 0 })
}

// progOfNoOps has no operation at all, and an X that would be valid for some of them.
func progOfNoOps() []impl.Ins {
	p := make([]impl.Ins, len(noOps))
	for i, op := range noOps {
		p[i] = impl.Ins{Op: op, X: i}
	}
	return p
}

// nextProgs are programs of several lengths, the ones with 8 and more instructions with every operation among them. Those with more than 12 are not valid.
func nextProgs() [][]impl.Ins {
	return [][]impl.Ins{nil, progOfLength(1), progOfLength(5), progOfLength(8), progOfLength(12), progOfLength(13), progOfLength(30), progOfNoOps()}
}

// pcsAround returns each index of the program, the one behind it, those around 12, numbers far outside and negative ones.
func pcsAround(p []impl.Ins) []int {
	pcs := []int{math.MinInt, math.MinInt + 1, -1 << 32, 2 - 1<<32, -12, -2, -1, 11, 12, 13, 14, 99, 100, 1 << 32, 1<<32 + 2, math.MaxInt - 1, math.MaxInt, len(p)}
	for pc := range p {
		pcs = append(pcs, pc)
	}
	return pcs
}

// placedGuests returns guests with each of the programs, at each of the counters around it.
func placedGuests() []impl.Guest {
	var all []impl.Guest
	for _, p := range nextProgs() {
		for _, pc := range pcsAround(p) {
			all = append(all, guestWith(func(g *impl.Guest) { g.Prog, g.Pc, g.Pending = p, pc, 0 }))
		}
	}
	return all
}

// nextExits are every kind of exit, numbers that are no kind, and exits of kind 0 that are not the zero exit. Only the first one lets a guest run.
var nextExits = []impl.Exit{{}, {Kind: 1}, {Kind: 1, Page: 3, Write: true}, {Kind: 2}, {Kind: 2, N: 99}, {Kind: 3}, {Kind: 4}, {Kind: 5}, {Kind: -1}, {Page: 1}, {Write: true}, {N: -1}}

// nextPendings are sets of no, one and several interrupts, and numbers that are no set.
var nextPendings = []int{0, 1, 4, 128, 3, 33, 255, -1, 256, 257, math.MinInt, math.MaxInt}

// inEveryState returns copies of a guest that can run and that cannot, with no, one and several interrupts pending, Open or not.
func inEveryState(g impl.Guest) []impl.Guest {
	var all []impl.Guest
	for _, e := range nextExits {
		for _, halted := range []bool{false, true} {
			for _, open := range []bool{true, false} {
				for _, p := range nextPendings {
					state := cloneGuest(g)
					state.Exit, state.Halted, state.Ctl.Open, state.Pending = e, halted, open, p
					all = append(all, state)
				}
			}
		}
	}
	return all
}

// fewStates returns copies of a guest: one for each kind of state that matters.
func fewStates(g impl.Guest) []impl.Guest {
	var all []impl.Guest
	for _, change := range []func(g *impl.Guest){
		func(g *impl.Guest) { g.Pending = 0 },
		func(g *impl.Guest) { g.Ctl.Open, g.Pending = true, 33 },
		func(g *impl.Guest) { g.Ctl, g.Pending = impl.Ctl{}, 33 },
		func(g *impl.Guest) { g.Ctl.Open, g.Pending = true, 256 },
		func(g *impl.Guest) { g.Exit = impl.Exit{Kind: 2, N: 5} },
		func(g *impl.Guest) { g.Halted = true },
	} {
		state := cloneGuest(g)
		change(&state)
		all = append(all, state)
	}
	return all
}

func TestWantNumbers(t *testing.T) {
	kinds := []int{impl.WtNone, impl.WtIrq, impl.WtPlain, impl.WtLoad, impl.WtStore, impl.WtOut, impl.WtCall, impl.WtHalt}
	if !slices.Equal(kinds, []int{0, 1, 2, 3, 4, 5, 6, 7}) {
		t.Error("the kinds of the next step are numbered", kinds)
	}
}

// TestWantOf has each place of each program, in each state.
func TestWantOf(t *testing.T) {
	for _, g := range placedGuests() {
		for _, state := range inEveryState(g) {
			checkNext(t, state)
		}
	}
}

func TestWantOfEveryOperation(t *testing.T) {
	for _, op := range append(numbersAround(30), noOps...) {
		for _, x := range append([]int{5, 11, 12, 15, 16, -16}, cellsAround...) {
			for _, g := range fewStates(guestBefore(impl.Ins{Op: op, X: x})) {
				checkNext(t, g)
			}
		}
	}
}

func TestWantOfSomeGuests(t *testing.T) {
	for _, g := range someGuests() {
		checkNextModifiesNothing(t, g)
	}
	for _, g := range placedGuests() {
		for _, state := range fewStates(g) {
			checkNextModifiesNothing(t, state)
		}
	}
}

func TestWantOfBounds(t *testing.T) {
	set, load, store := impl.Ins{Op: 1, X: 5}, impl.Ins{Op: 3, X: 6}, impl.Ins{Op: 4, X: 15}
	p := []impl.Ins{set, load, store, {Op: 5, X: 8}, {Op: 6, X: 9}, {Op: 2, X: 1}, {Op: 8}, {Op: 7}}
	long := append(slices.Repeat([]impl.Ins{set}, 12), load, store)
	open := impl.Ctl{Open: true}
	for _, c := range []struct {
		name    string
		g       impl.Guest
		kind    int
		address int
	}{
		{"set", impl.Guest{Prog: p}, 2, -1},
		{"load", impl.Guest{Prog: p, Pc: 1}, 3, 6},
		{"store", impl.Guest{Prog: p, Pc: 2}, 4, 15},
		{"out", impl.Guest{Prog: p, Pc: 3}, 5, -1},
		{"call", impl.Guest{Prog: p, Pc: 4}, 6, -1},
		{"add", impl.Guest{Prog: p, Pc: 5}, 2, -1},
		{"jump", impl.Guest{Prog: p, Pc: 6}, 2, -1},
		{"halt", impl.Guest{Prog: p, Pc: 7}, 7, -1},
		{"behind the last instruction", impl.Guest{Prog: p, Pc: 8}, 7, -1},
		{"Pc 12", impl.Guest{Prog: p, Pc: 12}, 7, -1},
		{"Pc 13", impl.Guest{Prog: p, Pc: 13}, 7, -1},
		{"the largest Pc", impl.Guest{Prog: p, Pc: math.MaxInt}, 7, -1},
		{"Pc -1", impl.Guest{Prog: p, Pc: -1}, 7, -1},
		{"the smallest Pc", impl.Guest{Prog: p, Pc: math.MinInt}, 7, -1},
		{"no program", impl.Guest{}, 7, -1},
		{"Pc 12 of a program of 14", impl.Guest{Prog: long, Pc: 12}, 3, 6},
		{"Pc 13 of a program of 14", impl.Guest{Prog: long, Pc: 13}, 4, 15},
		{"Pc 14 of a program of 14", impl.Guest{Prog: long, Pc: 14}, 7, -1},
		{"no operation", impl.Guest{Prog: []impl.Ins{{}}}, 2, -1},
		{"operation 9", impl.Guest{Prog: []impl.Ins{{Op: 9, X: 4}}}, 2, -1},
		{"a load of -1", impl.Guest{Prog: []impl.Ins{{Op: 3, X: -1}}}, 3, -1},
		{"a load of -2", impl.Guest{Prog: []impl.Ins{{Op: 3, X: -2}}}, 3, -2},
		{"a store to the smallest int", impl.Guest{Prog: []impl.Ins{{Op: 4, X: math.MinInt}}}, 4, math.MinInt},
		{"a store to 16", impl.Guest{Prog: []impl.Ins{{Op: 4, X: 16}}}, 4, 16},
		{"a load of 0", impl.Guest{Prog: []impl.Ins{{Op: 3}}}, 3, 0},
		{"a load with an A outside", impl.Guest{Prog: []impl.Ins{{Op: 3, X: 2}}, A: -1}, 3, 2},
		{"an interrupt before a load", impl.Guest{Prog: p, Pc: 1, Ctl: open, Pending: 1}, 1, -1},
		{"an interrupt before a store", impl.Guest{Prog: p, Pc: 2, Ctl: open, Pending: 128}, 1, -1},
		{"an interrupt before a halt", impl.Guest{Prog: p, Pc: 7, Ctl: open, Pending: 33}, 1, -1},
		{"an interrupt behind the program", impl.Guest{Prog: p, Pc: 8, Ctl: open, Pending: 4}, 1, -1},
		{"an interrupt with the full Seen", impl.Guest{Prog: p, Ctl: open, Pending: 4, Seen: seenOfLength(40)}, 1, -1},
		{"an interrupt that is not accepted, before a load", impl.Guest{Prog: p, Pc: 1, Pending: 1}, 3, 6},
		{"an interrupt that is not accepted, before a halt", impl.Guest{Prog: p, Pc: 7, Pending: 255}, 7, -1},
		{"no set of interrupts", impl.Guest{Prog: p, Pc: 2, Ctl: open, Pending: 256}, 4, 15},
		{"a negative set of interrupts", impl.Guest{Prog: p, Pc: 2, Ctl: open, Pending: -1}, 4, 15},
		{"halted before a load", impl.Guest{Prog: p, Pc: 1, Halted: true}, 0, -1},
		{"halted with an interrupt", impl.Guest{Prog: p, Pc: 1, Ctl: open, Pending: 1, Halted: true}, 0, -1},
		{"stopped before a store", impl.Guest{Prog: p, Pc: 2, Exit: impl.Exit{Kind: 1, Write: true}}, 0, -1},
		{"stopped with an interrupt", impl.Guest{Prog: p, Ctl: open, Pending: 1, Exit: impl.Exit{Kind: 4}}, 0, -1},
		{"stopped by no kind of exit", impl.Guest{Prog: p, Exit: impl.Exit{N: 1}}, 0, -1},
		{"stopped and halted", impl.Guest{Prog: p, Exit: impl.Exit{Kind: 3}, Halted: true}, 0, -1},
	} {
		if got := impl.WantOf(c.g); got != c.kind {
			t.Errorf("%s: WantOf(%+v) = %d; want %d", c.name, c.g, got, c.kind)
		}
		if got := impl.Address(c.g); got != c.address {
			t.Errorf("%s: Address(%+v) = %d; want %d", c.name, c.g, got, c.address)
		}
		if got := impl.Plainly(c.g); equalGuests(got, c.g) == (c.kind == 2) {
			t.Errorf("%s: Plainly(%+v) = %+v", c.name, c.g, got)
		}
	}
}

// TestPendingInterruptBeforeAnInstruction takes every set of pending interrupts in front of every instruction: as long as one is left, it is the next step, and then the instruction is, as if there had been none.
func TestPendingInterruptBeforeAnInstruction(t *testing.T) {
	for _, i := range []impl.Ins{{Op: 1, X: 8}, {Op: 2, X: 60}, {Op: 3, X: 7}, {Op: 4, X: 7}, {Op: 5, X: 7}, {Op: 6, X: 7}, {Op: 7}, {Op: 8, X: 1}, {Op: 0}, {Op: 9}} {
		calm := guestBefore(i)
		for p := range 256 {
			g := cloneGuest(calm)
			g.Pending, g.Seen = p, nil
			for range wantPending(p) {
				if impl.WantOf(g) != impl.WtIrq || impl.Address(g) != -1 || !equalGuests(impl.Plainly(g), g) {
					t.Errorf("interrupts %d before %v: WantOf = %d, Address = %d, Plainly = %+v", g.Pending, i, impl.WantOf(g), impl.Address(g), impl.Plainly(g))
				}
				g = impl.Interrupted(g)
			}
			if impl.WantOf(g) != impl.WantOf(calm) || impl.Address(g) != impl.Address(calm) || impl.WantOf(g) != wantKind(calm) {
				t.Errorf("after the interrupts %d before %v: WantOf = %d, Address = %d", p, i, impl.WantOf(g), impl.Address(g))
			}
			shut := cloneGuest(calm)
			shut.Ctl, shut.Pending = impl.Ctl{}, p
			if impl.WantOf(shut) != impl.WantOf(calm) || impl.Address(shut) != impl.Address(calm) {
				t.Errorf("with the interrupts %d, which are not accepted, before %v: WantOf = %d, Address = %d", p, i, impl.WantOf(shut), impl.Address(shut))
			}
			if got := impl.Plainly(shut); got.A != impl.Plainly(calm).A || got.Pc != impl.Plainly(calm).Pc || got.Pending != p {
				t.Errorf("with the interrupts %d, which are not accepted, Plainly before %v = %+v", p, i, got)
			}
		}
	}
}

func TestMoved(t *testing.T) {
	for _, pc := range append(numbersAround(60), pcsAround(nil)...) {
		for _, g := range fewStates(guestWith(func(g *impl.Guest) { g.Pc = pc })) {
			for _, step := range []guestStep{movedStep, storedStep} {
				checkResult(t, step, g)
			}
		}
	}
}

func TestMovedBounds(t *testing.T) {
	for _, c := range []struct{ pc, want int }{
		{0, 1}, {1, 2}, {5, 6}, {10, 11}, {11, 12}, {12, 12}, {13, 12}, {14, 12}, {24, 12}, {99, 12}, {1 << 32, 12}, {math.MaxInt - 1, 12}, {math.MaxInt, 12},
		{-1, 0}, {-2, -1}, {-12, -11}, {-1 << 32, 1 - 1<<32}, {math.MinInt, math.MinInt + 1},
	} {
		for _, n := range []int{0, 1, 5, 12, 30} {
			g := guestWith(func(g *impl.Guest) { g.Prog, g.Pc = progOfLength(n), c.pc })
			for name, got := range map[string]impl.Guest{"Moved": impl.Moved(g), "Stored": impl.Stored(g), "Held": impl.Held(g), "Loaded": impl.Loaded(g, 3)} {
				if got.Pc != c.want {
					t.Errorf("%s of a guest with %d instructions and Pc %d has Pc %d; want %d", name, n, c.pc, got.Pc, c.want)
				}
			}
		}
	}
}

// TestMovedUntilTheEnd moves on from every Pc: it becomes 12 and stays there.
func TestMovedUntilTheEnd(t *testing.T) {
	for start := range 13 {
		g := guestWith(func(g *impl.Guest) { g.Pc = start })
		for i := range 30 {
			if want := min(start+i, 12); g.Pc != want || !impl.GuestOk(g) {
				t.Errorf("from Pc %d, Pc is %d after %d moves; want %d", start, g.Pc, i, want)
			}
			g = impl.Moved(g)
		}
	}
}

// TestPlainly has every operation with A and X around the range of a cell, in each kind of state.
func TestPlainly(t *testing.T) {
	for _, op := range append([]int{1, 2, 3, 4, 5, 6, 7, 8}, noOps...) {
		for _, a := range cellsAround {
			for _, x := range append([]int{3, 4, 11, 12, 13}, cellsAround...) {
				g := guestBefore(impl.Ins{Op: op, X: x})
				g.A = a
				for _, state := range fewStates(g) {
					checkResult(t, plainlyStep, state)
				}
			}
		}
	}
}

// TestPlainlyOfCells has every A with every X in the range of a cell, at the first and the last Pc.
func TestPlainlyOfCells(t *testing.T) {
	for _, op := range []int{1, 2, 8, 0, 9} {
		for a := range 100 {
			for x := range 100 {
				for _, pc := range []int{0, 11} {
					g := impl.Guest{Prog: slices.Repeat([]impl.Ins{{Op: op, X: x}}, 12), A: a, Pc: pc}
					checkResult(t, plainlyStep, g)
				}
			}
		}
	}
}

// TestPlainlyInPlaces has each place of each program, in each state.
func TestPlainlyInPlaces(t *testing.T) {
	for _, g := range placedGuests() {
		for _, a := range []int{0, 42} {
			g.A = a
			for _, state := range inEveryState(g) {
				checkResult(t, plainlyStep, state)
			}
		}
	}
}

func TestPlainlyBounds(t *testing.T) {
	for _, c := range []struct {
		i         impl.Ins
		a, pc     int
		wantA, to int
	}{
		{impl.Ins{Op: 1, X: 0}, 42, 3, 0, 4},
		{impl.Ins{Op: 1, X: 99}, 42, 3, 99, 4},
		{impl.Ins{Op: 1, X: 100}, 42, 3, 42, 4},
		{impl.Ins{Op: 1, X: -1}, 42, 3, 42, 4},
		{impl.Ins{Op: 1, X: math.MaxInt}, 42, 3, 42, 4},
		{impl.Ins{Op: 1, X: math.MinInt}, 42, 3, 42, 4},
		{impl.Ins{Op: 1, X: 5}, 0, 0, 5, 1},
		{impl.Ins{Op: 1, X: 5}, 99, 11, 5, 12},
		{impl.Ins{Op: 1, X: 5}, 100, 3, 100, 4},
		{impl.Ins{Op: 1, X: 5}, -1, 3, -1, 4},
		{impl.Ins{Op: 1, X: 5}, math.MinInt, 3, math.MinInt, 4},
		{impl.Ins{Op: 2, X: 0}, 99, 3, 99, 4},
		{impl.Ins{Op: 2, X: 1}, 98, 3, 99, 4},
		{impl.Ins{Op: 2, X: 1}, 99, 3, 0, 4},
		{impl.Ins{Op: 2, X: 2}, 99, 3, 1, 4},
		{impl.Ins{Op: 2, X: 99}, 99, 3, 98, 4},
		{impl.Ins{Op: 2, X: 99}, 0, 3, 99, 4},
		{impl.Ins{Op: 2, X: 99}, 1, 11, 0, 12},
		{impl.Ins{Op: 2, X: 100}, 1, 3, 1, 4},
		{impl.Ins{Op: 2, X: -1}, 50, 3, 50, 4},
		{impl.Ins{Op: 2, X: 1}, 100, 3, 100, 4},
		{impl.Ins{Op: 2, X: 1}, -1, 3, -1, 4},
		{impl.Ins{Op: 2, X: math.MaxInt}, 1, 3, 1, 4},
		{impl.Ins{Op: 2, X: math.MaxInt}, math.MaxInt, 3, math.MaxInt, 4},
		{impl.Ins{Op: 2, X: math.MinInt}, math.MinInt, 3, math.MinInt, 4},
		{impl.Ins{Op: 8, X: 0}, 0, 3, 0, 0},
		{impl.Ins{Op: 8, X: 3}, 0, 3, 0, 3},
		{impl.Ins{Op: 8, X: 11}, 0, 3, 0, 11},
		{impl.Ins{Op: 8, X: 12}, 0, 3, 0, 12},
		{impl.Ins{Op: 8, X: 99}, 0, 3, 0, 99},
		{impl.Ins{Op: 8, X: 100}, 0, 3, 0, 4},
		{impl.Ins{Op: 8, X: -1}, 0, 3, 0, 4},
		{impl.Ins{Op: 8, X: math.MinInt}, 0, 11, 0, 12},
		{impl.Ins{Op: 8, X: 7}, 1, 3, 1, 4},
		{impl.Ins{Op: 8, X: 7}, 99, 11, 99, 12},
		{impl.Ins{Op: 8, X: 7}, 100, 3, 100, 4},
		{impl.Ins{Op: 8, X: 7}, -1, 3, -1, 4},
		{impl.Ins{Op: 0, X: 7}, 0, 3, 0, 4},
		{impl.Ins{Op: 9, X: 7}, 42, 3, 42, 4},
		{impl.Ins{Op: -1, X: -1}, -1, 11, -1, 12},
	} {
		p := withIns(progOfLength(12), c.pc, c.i)
		g := guestWith(func(g *impl.Guest) { g.Prog, g.A, g.Pc, g.Pending = p, c.a, c.pc, 0 })
		want := cloneGuest(g)
		want.A, want.Pc = c.wantA, c.to
		if got := impl.Plainly(g); !equalGuests(got, want) {
			t.Errorf("Plainly of %v with A %d at %d = %+v; want %+v", c.i, c.a, c.pc, got, want)
		}
	}
}

// TestPlainlyBehindTheEnd has instructions at 12 and more, which only a program that is not valid has: they are executed, and Pc then becomes 12.
func TestPlainlyBehindTheEnd(t *testing.T) {
	p := append(progOfLength(12), impl.Ins{Op: 1, X: 31}, impl.Ins{Op: 2, X: 32}, impl.Ins{Op: 8, X: 33}, impl.Ins{Op: 9})
	for _, c := range []struct{ pc, a, wantA, to int }{
		{12, 7, 31, 12}, {13, 7, 39, 12}, {14, 0, 0, 33}, {14, 7, 7, 12}, {15, 7, 7, 12}, {16, 7, 7, 16}, {17, 0, 0, 17},
	} {
		g := impl.Plainly(impl.Guest{Prog: p, A: c.a, Pc: c.pc})
		if g.A != c.wantA || g.Pc != c.to {
			t.Errorf("Plainly at %d with A %d gives A %d and Pc %d; want %d and %d", c.pc, c.a, g.A, g.Pc, c.wantA, c.to)
		}
	}
}

// TestPlainlyInARow runs a program with sums beyond 99 and jumps with A 0 and with another A; A and Pc before each step are written out.
func TestPlainlyInARow(t *testing.T) {
	g := impl.GuestNew([]impl.Ins{{Op: impl.OpSet, X: 1}, {Op: impl.OpAdd, X: 99}, {Op: impl.OpJump, X: 5}, {Op: impl.OpSet, X: 9}, {Op: impl.OpHalt}, {Op: impl.OpAdd, X: 60}, {Op: impl.OpAdd, X: 60}, {Op: impl.OpJump, X: 0}})
	for i, want := range [][2]int{{0, 0}, {1, 1}, {0, 2}, {0, 5}, {60, 6}, {20, 7}, {20, 8}, {20, 8}} {
		if g.A != want[0] || g.Pc != want[1] {
			t.Errorf("after %d steps, A is %d and Pc %d; want %v", i, g.A, g.Pc, want)
		}
		if kind := impl.WantOf(g); (kind == impl.WtPlain) != (i < 6) || (kind == impl.WtHalt) != (i >= 6) {
			t.Errorf("after %d steps, the next one is of kind %d", i, kind)
		}
		g = impl.Plainly(g)
	}
}

func TestLoaded(t *testing.T) {
	for _, length := range seenLengths {
		for _, v := range append(numbersAround(120), cellsAround...) {
			checkResult(t, loadedStep(v), guestWith(func(g *impl.Guest) { g.Seen = seenOfLength(length) }))
		}
	}
}

// TestLoadedBounds has each number of values seen around the limit, and values outside the range of a cell.
func TestLoadedBounds(t *testing.T) {
	for _, v := range []int{0, 1, 98, 99, 100, -1, 107, math.MinInt, math.MaxInt} {
		for _, c := range []struct {
			seen []int
			want []int
		}{
			{nil, []int{v}},
			{[]int{8}, []int{8, v}},
			{seenOfLength(38), append(seenOfLength(38), v)},
			{seenOfLength(39), append(seenOfLength(39), v)},
			{seenOfLength(40), seenOfLength(40)},
			{seenOfLength(41), seenOfLength(41)},
		} {
			g := guestWith(func(g *impl.Guest) { g.Seen = c.seen })
			want := cloneGuest(g)
			want.A, want.Pc, want.Seen = v, 4, c.want
			if got := impl.Loaded(g, v); !equalGuests(got, want) {
				t.Errorf("Loaded of %+v with %d = %+v; want %+v", g, v, got, want)
			}
		}
	}
}

// TestLoadedUntilFull loads more values than a guest keeps: A is always the last one, and the first 40 were seen.
func TestLoadedUntilFull(t *testing.T) {
	g := impl.GuestNew(progOfLength(3))
	for v := range 60 {
		g = impl.Loaded(g, v)
		if g.A != v || g.Pc != min(v+1, 12) || len(g.Seen) != min(v+1, 40) || g.Seen[len(g.Seen)-1] != min(v, 39) || !impl.GuestOk(g) {
			t.Errorf("after the values 0 to %d, the guest is %+v", v, g)
		}
	}
}

// TestStoredAndHeld has guests that can run and that cannot: both kinds are changed.
func TestStoredAndHeld(t *testing.T) {
	for _, g := range placedGuests() {
		for _, state := range inEveryState(g) {
			for _, step := range []guestStep{storedStep, heldStep} {
				checkResult(t, step, state)
			}
		}
	}
}

func TestStoredAndHeldBounds(t *testing.T) {
	for _, change := range []func(g *impl.Guest){
		func(g *impl.Guest) {},
		func(g *impl.Guest) { g.Halted = true },
		func(g *impl.Guest) { g.Exit = impl.Exit{Kind: 4} },
		func(g *impl.Guest) { g.Exit, g.Halted = impl.Exit{Kind: 1, Page: 2, Write: true}, true },
		func(g *impl.Guest) { g.Pending = 0 },
		func(g *impl.Guest) { g.A = -5 },
	} {
		g := guestWith(change)
		want := cloneGuest(g)
		want.Pc = 4
		if got := impl.Stored(g); !equalGuests(got, want) {
			t.Errorf("Stored(%+v) = %+v; want %+v", g, got, want)
		}
		want.Halted = true
		got := impl.Held(g)
		if !equalGuests(got, want) {
			t.Errorf("Held(%+v) = %+v; want %+v", g, got, want)
		}
		if impl.CanRun(got) || impl.WantOf(got) != impl.WtNone || impl.Address(got) != -1 {
			t.Errorf("the guest can run that Held returns: %+v", got)
		}
	}
}

// TestAddress has every X of each operation, in each kind of state.
func TestAddress(t *testing.T) {
	for _, op := range append([]int{1, 2, 3, 4, 5, 6, 7, 8}, noOps...) {
		for _, x := range numbersAround(120) {
			for n, g := range fewStates(guestBefore(impl.Ins{Op: op, X: x})) {
				want := -1
				if (op == 3 || op == 4) && (n == 0 || n == 2 || n == 3) {
					want = x
				}
				if got := impl.Address(g); got != want {
					t.Errorf("Address(%+v) = %d; want %d", g, got, want)
				}
			}
		}
	}
}

// TestValidGuestsStayValid takes each kind of step with guests that are valid: they stay so, if only cells are loaded.
func TestValidGuestsStayValid(t *testing.T) {
	for _, i := range validInstructions() {
		for _, pc := range []int{0, 11} {
			for _, a := range []int{0, 1, 99} {
				p := withIns(progOfLength(12), pc, i)
				g := guestWith(func(g *impl.Guest) { g.Prog, g.A, g.Pc, g.Pending = p, a, pc, 0 })
				for _, step := range []guestStep{movedStep, plainlyStep, storedStep, heldStep, loadedStep(0), loadedStep(99)} {
					if got := step.call(g); !impl.GuestOk(g) || !impl.GuestOk(got) {
						t.Errorf("GuestOk(%+v) = %v; %s gives %+v, for which it is %v", g, impl.GuestOk(g), step.name, got, impl.GuestOk(got))
					}
				}
			}
		}
	}
}

// TestNextSteps takes every kind of step with every kind of guest, and looks at the memory of arguments and results.
func TestNextSteps(t *testing.T) {
	guests := someGuests()
	for _, g := range placedGuests() {
		guests = append(guests, fewStates(g)...)
	}
	for _, op := range []int{1, 2, 8, 9} {
		for _, a := range []int{0, 42, 100} {
			g := guestBefore(impl.Ins{Op: op, X: 60})
			g.A = a
			guests = append(guests, fewStates(g)...)
		}
	}
	for _, g := range guests {
		for _, step := range nextSteps {
			checkGuestStep(t, step, g)
		}
	}
}

// TestNextStepsInARow applies each step to the result of the one before, with those of chapter 15 among them.
func TestNextStepsInARow(t *testing.T) {
	steps := slices.Concat(nextSteps, guestSteps)
	g := impl.GuestNew(progOfLength(12))
	for i := range 1000 {
		step := steps[i*i%len(steps)]
		checkGuestStep(t, step, g)
		g = step.call(g)
		checkNextModifiesNothing(t, g)
		if i%5 == 0 {
			g.A, g.Pc, g.Exit, g.Halted, g.Pending = i%100, i%13, impl.Exit{}, false, i/2%3
			g.Ctl.Open, g.Seen = i%3 > 0, g.Seen[:len(g.Seen)/2]
		}
	}
}

// TestNextStepsKeepNoState repeats calls, also after others with different arguments.
func TestNextStepsKeepNoState(t *testing.T) {
	all := slices.Concat(someGuests(), placedGuests())
	for range 2 {
		for i, g := range all {
			for _, x := range []impl.Guest{g, all[len(all)-1-i], g, g} {
				checkNext(t, x)
				for _, step := range nextSteps {
					checkResult(t, step, x)
				}
			}
		}
	}
}

// TestNextStepsOfNilAndEmpty has the same guest with slices that are nil and empty.
func TestNextStepsOfNilAndEmpty(t *testing.T) {
	empty := impl.Guest{Prog: []impl.Ins{}, Written: []impl.Slot{}, Live: make([]impl.Slot, 0, 3), Seen: make([]int, 0, 2)}
	checkNextModifiesNothing(t, empty)
	for _, step := range nextSteps {
		checkSameGuest(t, step.call(empty), step.call(impl.Guest{}), true)
		checkGuestStep(t, step, empty)
		checkGuestStep(t, step, impl.Guest{})
	}
}
