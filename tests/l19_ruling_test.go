package tests

import (
	"fmt"
	"math"
	"slices"
	"testing"

	"loop.example/g00975/impl"
)

// ruling is one operation on a machine: the call, and what it is expected to return.
type ruling struct {
	name string
	call func(b impl.Bare) (impl.Bare, bool)
	want func(b impl.Bare) (impl.Bare, bool)
}

// step is the ruling as a change of a machine. Its boolean is looked at by checkRuling.
func (r ruling) step() bareStep {
	return bareStep{r.name,
		func(b impl.Bare) impl.Bare { got, _ := r.call(b); return got },
		func(b impl.Bare) impl.Bare { want, _ := r.want(b); return want }}
}

// The functions wantSlotOk to wantPoke do what chapter 19 says, without the help of the program.

func wantSlotOk(s impl.Slot) bool {
	return s == impl.Slot{Page: -1} || !missing(8, s.Page) && 1 <= s.Rights && s.Rights <= 3
}

// wantRuled changes guest g. The change reports whether its condition is satisfied.
func wantRuled(b impl.Bare, g int, change func(x *impl.Guest) bool) (impl.Bare, bool) {
	want := cloneBare(b)
	if !wantBareOk(b) || missing(len(b.Guests), g) || !change(&want.Guests[g]) {
		return cloneBare(b), false
	}
	return want, true
}

func wantSet(b impl.Bare, g, page int, s impl.Slot) (impl.Bare, bool) {
	return wantRuled(b, g, func(x *impl.Guest) bool {
		if missing(4, page) || !wantSlotOk(s) {
			return false
		}
		x.Written = tableWith(x.Written, page, s)
		return true
	})
}

func wantFlush(b impl.Bare, g, page int) (impl.Bare, bool) {
	return wantRuled(b, g, func(x *impl.Guest) bool {
		if missing(4, page) {
			return false
		}
		x.Live = tableWith(x.Live, page, x.Written[page])
		return true
	})
}

func wantAnswer(b impl.Bare, g, v int) (impl.Bare, bool) {
	return wantRuled(b, g, func(x *impl.Guest) bool {
		kind := x.Exit.Kind
		if kind != 2 && kind != 3 || missing(100, v) {
			return false
		}
		*x = wantMoved(wantStopped(*x, impl.Exit{}))
		if kind == 2 {
			x.A = v
		}
		return true
	})
}

func wantResume(b impl.Bare, g int) (impl.Bare, bool) {
	return wantRuled(b, g, func(x *impl.Guest) bool {
		kind := x.Exit.Kind
		*x = wantStopped(*x, impl.Exit{})
		if kind == 4 {
			*x = wantHeld(*x)
		}
		return kind == 1 || kind == 4
	})
}

func wantInject(b impl.Bare, g, n int) (impl.Bare, bool) {
	return wantRuled(b, g, func(x *impl.Guest) bool {
		pending, ok := wantPostIrq(x.Pending, n)
		x.Pending = pending
		return ok
	})
}

func wantSetCtl(b impl.Bare, g int, c impl.Ctl) (impl.Bare, bool) {
	return wantRuled(b, g, func(x *impl.Guest) bool {
		x.Ctl = c
		return len(wantFaults(c)) == 0
	})
}

func wantPoke(b impl.Bare, page, cell, v int) (impl.Bare, bool) {
	want := cloneBare(b)
	if !wantBareOk(b) || missing(8, page) || missing(4, cell) || missing(100, v) {
		return want, false
	}
	want.Memory[page][cell] = v
	return want, true
}

func setRuling(g, page int, s impl.Slot) ruling {
	return ruling{fmt.Sprintf("BareSet of page %d of guest %d to %+v", page, g, s),
		func(b impl.Bare) (impl.Bare, bool) { return impl.BareSet(b, g, page, s) },
		func(b impl.Bare) (impl.Bare, bool) { return wantSet(b, g, page, s) }}
}

func flushRuling(g, page int) ruling {
	return ruling{fmt.Sprintf("BareFlush of page %d of guest %d", page, g),
		func(b impl.Bare) (impl.Bare, bool) { return impl.BareFlush(b, g, page) },
		func(b impl.Bare) (impl.Bare, bool) { return wantFlush(b, g, page) }}
}

func answerRuling(g, v int) ruling {
	return ruling{fmt.Sprintf("BareAnswer with %d to guest %d", v, g),
		func(b impl.Bare) (impl.Bare, bool) { return impl.BareAnswer(b, g, v) },
		func(b impl.Bare) (impl.Bare, bool) { return wantAnswer(b, g, v) }}
}

func resumeRuling(g int) ruling {
	return ruling{fmt.Sprintf("BareResume of guest %d", g),
		func(b impl.Bare) (impl.Bare, bool) { return impl.BareResume(b, g) },
		func(b impl.Bare) (impl.Bare, bool) { return wantResume(b, g) }}
}

func injectRuling(g, n int) ruling {
	return ruling{fmt.Sprintf("BareInject of %d into guest %d", n, g),
		func(b impl.Bare) (impl.Bare, bool) { return impl.BareInject(b, g, n) },
		func(b impl.Bare) (impl.Bare, bool) { return wantInject(b, g, n) }}
}

func ctlRuling(g int, c impl.Ctl) ruling {
	return ruling{fmt.Sprintf("BareCtl of guest %d to %+v", g, c),
		func(b impl.Bare) (impl.Bare, bool) { return impl.BareCtl(b, g, c) },
		func(b impl.Bare) (impl.Bare, bool) { return wantSetCtl(b, g, c) }}
}

func pokeRuling(page, cell, v int) ruling {
	return ruling{fmt.Sprintf("BarePoke of %d to page %d, cell %d", v, page, cell),
		func(b impl.Bare) (impl.Bare, bool) { return impl.BarePoke(b, page, cell, v) },
		func(b impl.Bare) (impl.Bare, bool) { return wantPoke(b, page, cell, v) }}
}

// rulingsOf are operations of each kind on guest g, with arguments that are accepted, if the guest is in the right state, and others. BarePoke has no guest.
func rulingsOf(g int) []ruling {
	return []ruling{
		setRuling(g, 0, impl.Slot{Page: 5, Rights: 2}), setRuling(g, 3, impl.Slot{Page: -1}), setRuling(g, -1, impl.Slot{Page: 5, Rights: 3}), setRuling(g, 4, impl.Slot{Page: 5, Rights: 3}), setRuling(g, 1, impl.Slot{Page: 8, Rights: 3}),
		flushRuling(g, 0), flushRuling(g, 3), flushRuling(g, -1), flushRuling(g, 4),
		answerRuling(g, 0), answerRuling(g, 99), answerRuling(g, -1), answerRuling(g, 100),
		resumeRuling(g),
		injectRuling(g, 0), injectRuling(g, 6), injectRuling(g, -1), injectRuling(g, 8),
		ctlRuling(g, impl.Ctl{}), ctlRuling(g, impl.Ctl{Traps: 3, Post: 128, Open: true}), ctlRuling(g, impl.Ctl{Post: 1}), ctlRuling(g, impl.Ctl{Traps: 4}),
		pokeRuling(0, 0, 98), pokeRuling(7, 3, 99), pokeRuling(8, 0, 0), pokeRuling(0, 4, 0), pokeRuling(0, 0, 100),
	}
}

// oneOfEachRuling are operations on guest g that are accepted, if the guest is in the right state.
func oneOfEachRuling(g int) []ruling {
	return []ruling{
		setRuling(g, 2, impl.Slot{Page: 4, Rights: 3}), flushRuling(g, 1), answerRuling(g, 5), resumeRuling(g),
		injectRuling(g, 4), ctlRuling(g, impl.Ctl{Traps: 2}), pokeRuling(3, 2, 95),
	}
}

// checkRuled compares what an operation returns with what is expected, and leaves the memory to checkBareStep, which is slower.
func checkRuled(t *testing.T, r ruling, b impl.Bare, want impl.Bare, wantOk bool) {
	t.Helper()
	if got, ok := r.call(b); ok != wantOk || !equalBares(got, want) {
		t.Errorf("%s in %+v = %+v, %v; want %+v, %v", r.name, b, got, ok, want, wantOk)
	}
}

// checkRuling expects what chapter 19 says of a machine of any kind.
func checkRuling(t *testing.T, r ruling, b impl.Bare) {
	t.Helper()
	want, ok := r.want(b)
	checkRuled(t, r, b, want, ok)
}

func checkNoRuling(t *testing.T, r ruling, b impl.Bare) {
	t.Helper()
	checkRuled(t, r, b, cloneBare(b), false)
}

// changedGuest returns a copy of the machine in which one guest has changed.
func changedGuest(at placed, change func(x *impl.Guest)) impl.Bare {
	want := cloneBare(at.b)
	change(&want.Guests[at.g])
	return want
}

// ruled returns the machine after operations that are all accepted.
func ruled(t *testing.T, b impl.Bare, rulings ...ruling) impl.Bare {
	t.Helper()
	for _, r := range rulings {
		after, ok := r.call(b)
		if !ok {
			t.Fatalf("%s in %+v is rejected", r.name, b)
		}
		b = after
	}
	return b
}

// stepped returns the machine after a step of the guest.
func stepped(t *testing.T, b impl.Bare, g int) impl.Bare {
	t.Helper()
	after, ok := impl.BareStep(b, g)
	if !ok {
		t.Fatalf("guest %d of %+v does not step", g, b)
	}
	return after
}

// guestsOfExit returns valid guests with the exit, halted or not, with no and with several interrupts pending, at the first, at a middle and at the last instruction, and behind it.
func guestsOfExit(e impl.Exit) []impl.Guest {
	var all []impl.Guest
	for _, pc := range []int{0, 3, 4, 5, 11, 12} {
		for _, halted := range []bool{false, true} {
			for _, pending := range []int{0, 33} {
				all = append(all, guestWith(func(g *impl.Guest) { g.Exit, g.Pc, g.Halted, g.Pending = e, pc, halted, pending }))
			}
		}
	}
	return all
}

// fewExits are exits of each kind, with numbers at both ends of their ranges.
var fewExits = []impl.Exit{{}, {Kind: 1}, {Kind: 1, Page: 3, Write: true}, {Kind: 2}, {Kind: 2, N: 99}, {Kind: 3}, {Kind: 3, N: 99}, {Kind: 4}}

// ruledPlaces returns machines with a guest in every kind of state, in every place.
func ruledPlaces() []placed {
	var all []placed
	for _, e := range fewExits {
		for _, x := range guestsOfExit(e) {
			all = append(all, inEveryPlace(x)...)
		}
	}
	return all
}

// fewPlaces returns machines with a guest in front of a store, for each kind of exit, and halted.
func fewPlaces() []placed {
	var all []placed
	for _, e := range fewExits {
		x := guestBefore(impl.Ins{Op: 4, X: 5})
		x.Exit = e
		all = append(all, inEveryPlace(x)...)
	}
	halted := guestBefore(impl.Ins{Op: 4, X: 5})
	halted.Halted = true
	return append(all, inEveryPlace(halted)...)
}

// farIndexes are in no range of pages, cells or guests.
var farIndexes = []int{-1, -2, 8, 9, 1 << 32, 1<<32 + 1, 1 - 1<<32, math.MinInt, math.MinInt + 1, math.MaxInt, math.MaxInt - 1}

func TestBareSet(t *testing.T) {
	for _, at := range fewPlaces() {
		for page := range 4 {
			for _, s := range everySlotOfAGuest() {
				want := changedGuest(at, func(x *impl.Guest) { x.Written[page] = s })
				checkRuled(t, setRuling(at.g, page, s), at.b, want, true)
			}
			for _, s := range slotsThatAreNotValid() {
				checkNoRuling(t, setRuling(at.g, page, s), at.b)
			}
		}
		for _, page := range append([]int{4, 5, 6, 7}, farIndexes...) {
			for _, s := range []impl.Slot{{Page: -1}, {Page: 5, Rights: 3}, {Page: 0, Rights: 1}, {Page: 8, Rights: 3}} {
				checkNoRuling(t, setRuling(at.g, page, s), at.b)
			}
		}
	}
}

// TestBareSetOfSlots has each field of a slot in turn, with all numbers around its range and far from it.
func TestBareSetOfSlots(t *testing.T) {
	b := bareOf(fullGuest(), otherRunner())
	for _, n := range slices.Concat(numbersAround(30), farNumbers, []int{3, 4, 7, 8}) {
		for _, s := range []impl.Slot{{Page: n}, {Page: n, Rights: 1}, {Page: n, Rights: 2}, {Page: n, Rights: 3}, {Page: -1, Rights: n}, {Page: 0, Rights: n}, {Page: 7, Rights: n}, {Page: 8, Rights: n}, {Page: n, Rights: n}} {
			for page := -1; page < 5; page++ {
				for g := range 2 {
					want := cloneBare(b)
					ok := 0 <= page && page < 4 && (s == impl.Slot{Page: -1} || 0 <= s.Page && s.Page < 8 && 0 < s.Rights && s.Rights < 4)
					if ok {
						want.Guests[g].Written[page] = s
					}
					checkRuled(t, setRuling(g, page, s), b, want, ok)
				}
			}
		}
	}
}

func TestBareFlush(t *testing.T) {
	for _, at := range fewPlaces() {
		for _, s := range everySlotOfAGuest() {
			for page := range 4 {
				at.b.Guests[at.g].Written[page] = s
				want := changedGuest(at, func(x *impl.Guest) { x.Live[page] = s })
				checkRuled(t, flushRuling(at.g, page), at.b, want, true)
			}
		}
		for _, page := range append([]int{4, 5, 6, 7}, farIndexes...) {
			checkNoRuling(t, flushRuling(at.g, page), at.b)
		}
	}
}

// accesses are the steps of a guest that go through a page: a load and a store of each of its cells.
func accesses(page int) []impl.Ins {
	var all []impl.Ins
	for cell := range 4 {
		all = append(all, impl.Ins{Op: 3, X: page*4 + cell}, impl.Ins{Op: 4, X: page*4 + cell})
	}
	return all
}

// checkSeesLive expects a load and a store of the page to do what the live slot permits, in a machine as it is after the given operations; and a walk through the live table to lead to where it led before.
func checkSeesLive(t *testing.T, at placed, page int, live impl.Slot, rulings ...ruling) {
	t.Helper()
	for _, i := range accesses(page) {
		at.b.Guests[at.g].Prog[at.b.Guests[at.g].Pc] = i
		after := placed{ruled(t, at.b, rulings...), at.g}
		checkStepped(t, after.b, at.g, accessed(after, i.Op, i.X, live), true)
	}
	after := ruled(t, at.b, rulings...)
	for other := -1; other < 5; other++ {
		for need := 1; need <= 3; need++ {
			before, permitted := impl.WalkInner(at.b.Guests[at.g].Live, other, need)
			if got, ok := impl.WalkInner(after.Guests[at.g].Live, other, need); got != before || ok != permitted {
				t.Errorf("after %s the walk of page %d with %d leads to %d, %v; before, it led to %d, %v", rulings[0].name, other, need, got, ok, before, permitted)
			}
		}
	}
}

// TestSlotsThatAreNotFlushed is the promise itself: whatever slot is written, a load and a store do what the slot permits that was in effect before, and fault if there is none.
func TestSlotsThatAreNotFlushed(t *testing.T) {
	for _, live := range []impl.Slot{{Page: -1}, {Page: 6, Rights: 1}, {Page: 6, Rights: 2}, {Page: 0, Rights: 3}} {
		for page := range 4 {
			x := guestBefore(impl.Ins{Op: 3})
			x.Live[page] = live
			for _, at := range inEveryPlace(x) {
				for _, s := range everySlotOfAGuest() {
					checkSeesLive(t, at, page, live, setRuling(at.g, page, s))
				}
			}
		}
	}
}

// TestFlushOfOtherPages writes a slot and flushes all pages but its own, and its own page of the other guest: it is not in effect.
func TestFlushOfOtherPages(t *testing.T) {
	for page := range 4 {
		x := guestBefore(impl.Ins{Op: 3})
		x.Live[page] = impl.Slot{Page: -1}
		for _, at := range inEveryPlace(x)[1:] {
			for _, s := range []impl.Slot{{Page: 5, Rights: 1}, {Page: 6, Rights: 2}, {Page: 7, Rights: 3}} {
				b := ruled(t, at.b, setRuling(at.g, page, s), flushRuling(1-at.g, page))
				for other := range 4 {
					if other != page {
						b = ruled(t, b, flushRuling(at.g, other))
					}
				}
				for _, i := range accesses(page) {
					b.Guests[at.g].Prog[3] = i
					want := cloneBare(b)
					want.Guests[at.g].Exit = impl.Exit{Kind: 1, Page: page, Write: i.Op == 4}
					checkStepped(t, b, at.g, want, true)
				}
			}
		}
	}
}

// TestFlushedSlotsAreInEffect lets an access fault, writes slots of all pages and resumes the guest: the access faults again, until its own page is flushed.
func TestFlushedSlotsAreInEffect(t *testing.T) {
	slots := []impl.Slot{{Page: 7, Rights: 3}, {Page: 4, Rights: 3}, {Page: 0, Rights: 3}, {Page: 5, Rights: 3}}
	for page := range 4 {
		for _, i := range accesses(page) {
			x := guestBefore(i)
			x.Live = slices.Repeat([]impl.Slot{{Page: -1}}, 4)
			fault := impl.Exit{Kind: 1, Page: page, Write: i.Op == 4}
			for _, at := range inEveryPlace(x) {
				b := stepped(t, at.b, at.g)
				for p, s := range slots {
					b = ruled(t, b, setRuling(at.g, p, s))
				}
				for other := range 4 {
					b = ruled(t, b, resumeRuling(at.g))
					b = stepped(t, b, at.g)
					if got := impl.ExitOf(b, at.g); got != fault {
						t.Errorf("%+v of guest %d: the exit is %+v; want %+v", i, at.g, got, fault)
					}
					if other != page {
						b = ruled(t, b, flushRuling(at.g, other))
					}
				}
				b = ruled(t, b, flushRuling(at.g, page), resumeRuling(at.g))
				want := accessed(at, i.Op, i.X, slots[page])
				want.Guests[at.g].Written, want.Guests[at.g].Live = slots, slots
				checkStepped(t, b, at.g, want, true)
			}
		}
	}
}

// TestFlushIsOfOnePage writes every page and flushes one after the other, in every order of two and in order from each one: only the slots that were flushed so far are in effect.
func TestFlushIsOfOnePage(t *testing.T) {
	slots := []impl.Slot{{Page: 7, Rights: 3}, {Page: 4, Rights: 1}, {Page: -1}, {Page: 5, Rights: 2}}
	for _, order := range [][]int{{0, 1, 2, 3}, {1, 2, 3, 0}, {2, 3, 0, 1}, {3, 2, 1, 0}, {1, 3, 0, 2}, {2, 0, 3, 1}, {0, 0, 3, 0}, {3, 3, 3}} {
		for _, at := range inEveryPlace(fullGuest()) {
			b := at.b
			for p, s := range slots {
				b = ruled(t, b, setRuling(at.g, p, s))
			}
			want := changedGuest(at, func(x *impl.Guest) { x.Written = slices.Clone(slots) })
			for _, page := range order {
				b = ruled(t, b, flushRuling(at.g, page))
				want.Guests[at.g].Live[page] = slots[page]
				if !equalBares(b, want) {
					t.Errorf("after the flush of page %d, of %v in order: %+v; want %+v", page, order, b, want)
				}
			}
		}
	}
}

// TestWritesBeforeAFlush writes one slot several times: only the last one comes into effect, and a repeated flush changes nothing.
func TestWritesBeforeAFlush(t *testing.T) {
	slots := everySlotOfAGuest()
	for page := range 4 {
		for n := range slots {
			first, second, last := slots[n], slots[(n*7+3)%len(slots)], slots[(n*11+5)%len(slots)]
			for _, at := range inEveryPlace(fullGuest()) {
				written := ruled(t, at.b, setRuling(at.g, page, first), setRuling(at.g, page, second), setRuling(at.g, page, last))
				want := changedGuest(at, func(x *impl.Guest) { x.Written[page] = last })
				if !equalBares(written, want) {
					t.Errorf("page %d of guest %d written three times: %+v; want %+v", page, at.g, written, want)
				}
				want.Guests[at.g].Live[page] = last
				for range 3 {
					checkRuled(t, flushRuling(at.g, page), written, want, true)
					written = ruled(t, written, flushRuling(at.g, page))
				}
				// A slot that is written after the flush is not in effect again.
				again := placed{want, at.g}
				checkRuled(t, setRuling(at.g, page, first), written, changedGuest(again, func(x *impl.Guest) { x.Written[page] = first }), true)
			}
		}
	}
}

// TestBareAnswer has every exit, with every answer around the range of a cell, for guests in every state.
func TestBareAnswer(t *testing.T) {
	for _, e := range fewExits {
		for _, x := range guestsOfExit(e) {
			for _, at := range inEveryPlace(x) {
				for _, v := range slices.Concat(goodValues, badValues, []int{42, 7}) {
					ok := (e.Kind == 2 || e.Kind == 3) && 0 <= v && v <= 99
					want := cloneBare(at.b)
					if after := &want.Guests[at.g]; ok {
						after.Exit, after.Pc = impl.Exit{}, min(x.Pc+1, 12)
						if e.Kind == 2 {
							after.A = v
						}
					}
					checkRuled(t, answerRuling(at.g, v), at.b, want, ok)
				}
			}
		}
	}
}

func TestBareAnswerOfEveryExit(t *testing.T) {
	for _, e := range validExits() {
		x := guestWith(func(g *impl.Guest) { g.Exit = e })
		for _, at := range inEveryPlace(x) {
			for _, v := range []int{0, 17, 99} {
				switch e.Kind {
				case 2:
					checkRuled(t, answerRuling(at.g, v), at.b, changedGuest(at, func(x *impl.Guest) { x.Exit, x.A, x.Pc = impl.Exit{}, v, 4 }), true)
				case 3:
					checkRuled(t, answerRuling(at.g, v), at.b, changedGuest(at, func(x *impl.Guest) { x.Exit, x.Pc = impl.Exit{}, 4 }), true)
				default:
					checkNoRuling(t, answerRuling(at.g, v), at.b)
				}
			}
			for _, v := range []int{-1, 100, math.MinInt, math.MaxInt} {
				checkNoRuling(t, answerRuling(at.g, v), at.b)
			}
		}
	}
}

func TestBareResume(t *testing.T) {
	exits := slices.Concat(fewExits, validExits())
	for _, e := range exits {
		for _, x := range guestsOfExit(e) {
			for _, at := range inEveryPlace(x) {
				switch e.Kind {
				case 1:
					checkRuled(t, resumeRuling(at.g), at.b, changedGuest(at, func(x *impl.Guest) { x.Exit = impl.Exit{} }), true)
				case 4:
					checkRuled(t, resumeRuling(at.g), at.b, changedGuest(at, func(x *impl.Guest) { x.Exit, x.Halted, x.Pc = impl.Exit{}, true, min(x.Pc+1, 12) }), true)
				default:
					checkNoRuling(t, resumeRuling(at.g), at.b)
				}
			}
		}
	}
}

// TestExitsThatAreNotValid has numbers that are no kind of exit, and fields that the kind does not use or that are out of range: the machine is not valid.
func TestExitsThatAreNotValid(t *testing.T) {
	for _, e := range someExits() {
		if wantExitOk(e) {
			continue
		}
		b := bareOf(otherRunner(), guestWith(func(g *impl.Guest) { g.Exit = e }))
		for g := range 2 {
			checkNoRuling(t, answerRuling(g, 5), b)
			checkNoRuling(t, resumeRuling(g), b)
		}
	}
}

// TestExitsAreContinuedOnce repeats each answer: the guest that goes on has no exit any more.
func TestExitsAreContinuedOnce(t *testing.T) {
	for _, at := range ruledPlaces() {
		for _, r := range []ruling{answerRuling(at.g, 5), resumeRuling(at.g)} {
			after, ok := r.call(at.b)
			if !ok {
				continue
			}
			checkNoRuling(t, answerRuling(at.g, 5), after)
			checkNoRuling(t, resumeRuling(at.g), after)
			if x := at.b.Guests[at.g]; impl.CanRun(after.Guests[at.g]) != (!x.Halted && x.Exit.Kind != 4) {
				t.Errorf("%s in %+v: the guest can run: %v", r.name, at.b, impl.CanRun(after.Guests[at.g]))
			}
		}
	}
}

// TestStepsAndAnswers runs a guest through each kind of exit: a call gets its value, an output that traps is not put out, a fault is repeated, and a halt stays.
func TestStepsAndAnswers(t *testing.T) {
	prog := []impl.Ins{{Op: 6, X: 8}, {Op: 5, X: 9}, {Op: 4, X: 6}, {Op: 7}}
	b := impl.BareNew([][]impl.Ins{prog, {{Op: 7}}})
	b = ruled(t, b, ctlRuling(0, impl.Ctl{Traps: 3}))
	want := cloneBare(b)
	x := &want.Guests[0]
	expect := func(name string) {
		t.Helper()
		if !equalBares(b, want) {
			t.Fatalf("%s: the machine is %+v; want %+v", name, b, want)
		}
	}
	b, x.Exit = stepped(t, b, 0), impl.Exit{Kind: 2, N: 8}
	expect("the call")
	b = ruled(t, b, answerRuling(0, 77))
	x.Exit, x.A, x.Pc = impl.Exit{}, 77, 1
	expect("the answer to the call")
	b, x.Exit = stepped(t, b, 0), impl.Exit{Kind: 3, N: 9}
	expect("the output")
	b = ruled(t, b, answerRuling(0, 33))
	x.Exit, x.Pc = impl.Exit{}, 2
	expect("the answer to the output")
	for range 3 {
		b, x.Exit = stepped(t, b, 0), impl.Exit{Kind: 1, Page: 1, Write: true}
		expect("the store")
		b, x.Exit = ruled(t, b, resumeRuling(0)), impl.Exit{}
		expect("the store to be repeated")
	}
	b = ruled(t, b, setRuling(0, 1, impl.Slot{Page: 7, Rights: 2}), flushRuling(0, 1))
	x.Written[1], x.Live[1] = impl.Slot{Page: 7, Rights: 2}, impl.Slot{Page: 7, Rights: 2}
	b, x.Pc, want.Memory[7][2] = stepped(t, b, 0), 3, 77
	expect("the store that is permitted")
	b, x.Exit = stepped(t, b, 0), impl.Exit{Kind: 4}
	expect("the halt")
	b = ruled(t, b, resumeRuling(0))
	x.Exit, x.Halted, x.Pc = impl.Exit{}, true, 4
	expect("the halt that is resumed")
	checkRejected(t, b, 0)
	checkNoRuling(t, resumeRuling(0), b)
}

// TestLastInstruction answers exits at the last instruction of a program, short and of full length: the guest then halts.
func TestLastInstruction(t *testing.T) {
	for _, length := range []int{1, 5, 11, 12} {
		for _, c := range []struct {
			exit impl.Exit
			r    func(g int) ruling
			a    int
		}{
			{impl.Exit{Kind: 2, N: 3}, func(g int) ruling { return answerRuling(g, 8) }, 8},
			{impl.Exit{Kind: 3, N: 3}, func(g int) ruling { return answerRuling(g, 8) }, 42},
		} {
			x := guestWith(func(g *impl.Guest) {
				g.Prog, g.Pc, g.Exit, g.Pending, g.Ctl = progOfLength(length), length-1, c.exit, 0, impl.Ctl{}
			})
			for _, at := range inEveryPlace(x) {
				b := ruled(t, at.b, c.r(at.g))
				want := changedGuest(at, func(x *impl.Guest) { x.Exit, x.A, x.Pc = impl.Exit{}, c.a, length })
				if !equalBares(b, want) {
					t.Errorf("an answer to %+v at the end of %d instructions: %+v; want %+v", c.exit, length, b, want)
				}
				want.Guests[at.g].Halted, want.Guests[at.g].Pc = true, min(length+1, 12)
				checkStepped(t, b, at.g, want, true)
			}
		}
	}
}

// TestBareInject has every set of pending interrupts with every interrupt, and with numbers that are none.
func TestBareInject(t *testing.T) {
	for p := range 256 {
		x := fullGuest()
		x.Pending = p
		for _, at := range inEveryPlace(x) {
			for n, bit := range powers {
				want := cloneBare(at.b)
				want.Guests[at.g].Pending = p | bit
				checkRuled(t, injectRuling(at.g, n), at.b, want, true)
			}
			for _, n := range []int{-1, 8, 63, 64, math.MinInt, math.MaxInt} {
				checkNoRuling(t, injectRuling(at.g, n), at.b)
			}
		}
	}
	for _, n := range irqsOutside() {
		checkNoRuling(t, injectRuling(0, n), bareOf(fullGuest()))
		checkNoRuling(t, injectRuling(1, n), bareOf(fullGuest(), otherGuest()))
	}
}

// TestBareInjectOfEveryState injects into guests that can run and that cannot, that accept interrupts and that do not.
func TestBareInjectOfEveryState(t *testing.T) {
	for _, at := range ruledPlaces() {
		for _, c := range []impl.Ctl{{}, {Open: true}, {Traps: 1, Post: 255, Open: true}} {
			at.b.Guests[at.g].Ctl = c
			for n := -1; n < 9; n++ {
				want := cloneBare(at.b)
				pending, ok := wantPostIrq(want.Guests[at.g].Pending, n)
				want.Guests[at.g].Pending = pending
				checkRuled(t, injectRuling(at.g, n), at.b, want, ok)
			}
		}
	}
}

// TestInjectedInterruptsAreTaken injects interrupts that a guest then takes in descending order, each once.
func TestInjectedInterruptsAreTaken(t *testing.T) {
	x := guestBefore(impl.Ins{Op: 1, X: 8})
	x.Seen = nil
	for _, at := range inEveryPlace(x) {
		b := ruled(t, at.b, injectRuling(at.g, 2), injectRuling(at.g, 7), injectRuling(at.g, 2), injectRuling(at.g, 0))
		for range 3 {
			b = stepped(t, b, at.g)
		}
		want := changedGuest(at, func(x *impl.Guest) { x.Seen = []int{107, 102, 100} })
		if !equalBares(b, want) {
			t.Errorf("after three injected interrupts the machine is %+v; want %+v", b, want)
		}
	}
}

func TestBareCtl(t *testing.T) {
	for _, x := range []impl.Guest{fullGuest(), otherGuest(), thirdGuest()} {
		for _, at := range inEveryPlace(x) {
			for _, c := range validControls() {
				checkRuled(t, ctlRuling(at.g, c), at.b, changedGuest(at, func(x *impl.Guest) { x.Ctl = c }), true)
			}
		}
	}
	for _, c := range someControls() {
		if len(wantFaults(c)) > 0 {
			for _, at := range inEveryPlace(fullGuest()) {
				checkNoRuling(t, ctlRuling(at.g, c), at.b)
			}
		}
	}
}

func TestBareCtlBounds(t *testing.T) {
	for _, c := range []struct {
		ctl impl.Ctl
		ok  bool
	}{
		{impl.Ctl{}, true},
		{impl.Ctl{Open: true}, true},
		{impl.Ctl{Traps: 3}, true},
		{impl.Ctl{Traps: 4}, false},
		{impl.Ctl{Traps: -1}, false},
		{impl.Ctl{Traps: math.MinInt}, false},
		{impl.Ctl{Traps: math.MaxInt}, false},
		{impl.Ctl{Post: 255, Open: true}, true},
		{impl.Ctl{Post: 256, Open: true}, false},
		{impl.Ctl{Post: -1, Open: true}, false},
		{impl.Ctl{Post: math.MinInt, Open: true}, false},
		{impl.Ctl{Post: math.MaxInt, Open: true}, false},
		{impl.Ctl{Post: 1}, false},
		{impl.Ctl{Traps: 2, Post: 1, Open: true}, false},
		{impl.Ctl{Traps: 3, Post: 1, Open: true}, true},
		{impl.Ctl{Traps: 2, Open: true}, true},
		{impl.Ctl{Traps: 2}, true},
		{impl.Ctl{Traps: 2, Post: 8}, false},
	} {
		for _, at := range fewPlaces() {
			want := cloneBare(at.b)
			if c.ok {
				want.Guests[at.g].Ctl = c.ctl
			}
			checkRuled(t, ctlRuling(at.g, c.ctl), at.b, want, c.ok)
		}
	}
}

// TestBareCtlIsInEffect sets traps and interrupts of a guest in front of an output: the next step is another one.
func TestBareCtlIsInEffect(t *testing.T) {
	x := guestBefore(impl.Ins{Op: 5, X: 9})
	x.Pending = 4
	for _, c := range []struct {
		ctl  impl.Ctl
		want func(b *impl.Bare, x *impl.Guest)
	}{
		{impl.Ctl{}, func(b *impl.Bare, x *impl.Guest) { b.Outs, x.Pc = append(b.Outs, 9), 4 }},
		{impl.Ctl{Traps: 2}, func(b *impl.Bare, x *impl.Guest) { b.Outs, x.Pc = append(b.Outs, 9), 4 }},
		{impl.Ctl{Traps: 1}, func(b *impl.Bare, x *impl.Guest) { x.Exit = impl.Exit{Kind: 3, N: 9} }},
		{impl.Ctl{Open: true}, func(b *impl.Bare, x *impl.Guest) { x.Pending, x.Seen = 0, append(x.Seen, 102) }},
	} {
		for _, at := range inEveryPlace(x) {
			b := ruled(t, at.b, ctlRuling(at.g, c.ctl))
			want := cloneBare(at.b)
			want.Guests[at.g].Ctl = c.ctl
			c.want(&want, &want.Guests[at.g])
			checkStepped(t, b, at.g, want, true)
		}
	}
}

func TestBarePoke(t *testing.T) {
	for _, b := range []impl.Bare{fullBare(), bareOf(otherGuest()), bareOf(thirdGuest(), fullGuest()), impl.BareNew([][]impl.Ins{progOfLength(3)})} {
		for page := range 8 {
			for cell := range 4 {
				for v := range 100 {
					want := cloneBare(b)
					want.Memory[page][cell] = v
					checkRuled(t, pokeRuling(page, cell, v), b, want, true)
				}
				for _, v := range badValues {
					checkNoRuling(t, pokeRuling(page, cell, v), b)
				}
			}
			for _, cell := range slices.Concat([]int{4, 5, 31}, farIndexes, farNumbers) {
				checkNoRuling(t, pokeRuling(page, cell, 7), b)
			}
		}
		for _, page := range slices.Concat(farIndexes, farNumbers) {
			for cell := -1; cell < 5; cell++ {
				checkNoRuling(t, pokeRuling(page, cell, 7), b)
			}
		}
	}
}

// TestBarePokeOfStoppedGuests pokes memories of machines whose guests are stopped or halted, and of those that can run: it has no guest.
func TestBarePokeOfStoppedGuests(t *testing.T) {
	for _, at := range ruledPlaces() {
		for _, c := range []struct{ page, cell, v int }{{0, 0, 0}, {7, 3, 99}, {4, 1, 50}} {
			want := cloneBare(at.b)
			want.Memory[c.page][c.cell] = c.v
			checkRuled(t, pokeRuling(c.page, c.cell, c.v), at.b, want, true)
		}
		for _, c := range []struct{ page, cell, v int }{{-1, 0, 0}, {8, 0, 0}, {0, -1, 0}, {0, 4, 0}, {0, 0, -1}, {0, 0, 100}} {
			checkNoRuling(t, pokeRuling(c.page, c.cell, c.v), at.b)
		}
	}
}

// TestPokedCellsAreLoaded lets a guest load what was poked.
func TestPokedCellsAreLoaded(t *testing.T) {
	for page := range 8 {
		for cell := range 4 {
			x := guestBefore(impl.Ins{Op: 3, X: 8 + cell})
			x.Live[2] = impl.Slot{Page: page, Rights: 1}
			for _, at := range inEveryPlace(x) {
				poked := placed{ruled(t, at.b, pokeRuling(page, cell, 97)), at.g}
				want := changedGuest(poked, func(x *impl.Guest) { x.A, x.Pc, x.Seen = 97, 4, append(x.Seen, 97) })
				want.Memory[page][cell] = 97
				checkStepped(t, poked.b, at.g, want, true)
			}
		}
	}
}

// TestRulingsOfGuestsThatDoNotExist has machines of one and of two guests, also with one that lies behind the ones there are. BarePoke has no guest.
func TestRulingsOfGuestsThatDoNotExist(t *testing.T) {
	for _, at := range fewPlaces() {
		for _, g := range append([]int{len(at.b.Guests), len(at.b.Guests) + 1}, farIndexes...) {
			for _, r := range rulingsOf(g)[:22] {
				checkNoRuling(t, r, at.b)
			}
		}
		one := at.b
		one.Guests = at.b.Guests[:1]
		for _, r := range rulingsOf(1)[:22] {
			checkNoRuling(t, r, one)
		}
	}
}

// TestRulingsOfMachinesThatAreNotValid has machines that are not valid in one field each, for operations that would be accepted otherwise.
func TestRulingsOfMachinesThatAreNotValid(t *testing.T) {
	for _, e := range fewExits {
		runner := func() impl.Bare {
			return bareOf(guestWith(func(g *impl.Guest) { g.Exit = e }), guestWith(func(g *impl.Guest) { g.Exit, g.A = e, 7 }))
		}
		check := func(b impl.Bare) {
			t.Helper()
			for g := -1; g < 4; g++ {
				for _, r := range slices.Concat(oneOfEachRuling(g), rulingsOf(g)) {
					checkNoRuling(t, r, b)
				}
			}
		}
		for _, change := range invalidating {
			b := runner()
			change(&b)
			check(b)
		}
		for _, change := range invalidatingGuest {
			for wrong := range 2 {
				b := runner()
				change(&b.Guests[wrong])
				check(b)
			}
		}
	}
}

// TestRulingsOfSomeMachines compares each kind of operation with the model, for machines of every kind.
func TestRulingsOfSomeMachines(t *testing.T) {
	for _, b := range someBares() {
		for g := range len(b.Guests) + 2 {
			for _, r := range slices.Concat(rulingsOf(g-1), oneOfEachRuling(g-1)) {
				checkRuling(t, r, b)
			}
		}
	}
	for _, at := range ruledPlaces() {
		for g := -1; g < 3; g++ {
			for _, r := range slices.Concat(rulingsOf(g), oneOfEachRuling(g)) {
				checkRuling(t, r, at.b)
			}
		}
	}
	for _, x := range someGuests() {
		for _, at := range inEveryPlace(x) {
			for g := range 2 {
				for _, r := range oneOfEachRuling(g) {
					checkRuling(t, r, at.b)
				}
			}
		}
	}
}

// TestOutsAndPendingStay has every number of values put out and every set of interrupts of the hypervisor: no operation looks at them, or changes them.
func TestOutsAndPendingStay(t *testing.T) {
	for _, outs := range []int{0, 1, 39, 40} {
		for _, pending := range []int{0, 16, 255} {
			for _, at := range fewPlaces() {
				at.b.Outs, at.b.Pending = seenOfLength(outs), pending
				for _, r := range slices.Concat(rulingsOf(at.g), oneOfEachRuling(at.g)) {
					checkRuling(t, r, at.b)
					if got, _ := r.call(at.b); len(got.Outs) != outs || got.Pending != pending {
						t.Errorf("%s in %+v changes Outs or Pending: %+v", r.name, at.b, got)
					}
				}
			}
		}
	}
}

// TestSeenStays has every number of values seen: neither an answer nor an interrupt that is only injected is observed.
func TestSeenStays(t *testing.T) {
	for _, length := range []int{0, 1, 39, 40} {
		for _, at := range fewPlaces() {
			at.b.Guests[at.g].Seen = seenOfLength(length)
			for _, r := range slices.Concat(rulingsOf(at.g), oneOfEachRuling(at.g)) {
				checkRuling(t, r, at.b)
				if got := impl.SeenOf(r.step().call(at.b), at.g); !slices.Equal(got, seenOfLength(length)) {
					t.Errorf("%s in %+v: the guest saw %v", r.name, at.b, got)
				}
			}
		}
	}
}

// tossedRuling returns an operation, most of whose arguments are in their ranges.
func tossedRuling(toss func(n int) int) ruling {
	slots, controls := append(everySlotOfAGuest(), impl.Slot{Page: 8, Rights: 3}), append(validControls(), impl.Ctl{Post: 8})
	g := toss(2)
	switch toss(12) {
	case 0, 1:
		return setRuling(g, toss(5), slots[toss(len(slots))])
	case 2, 3:
		return flushRuling(g, toss(5))
	case 4, 5:
		return answerRuling(g, toss(101))
	case 6, 7, 8:
		return resumeRuling(g)
	case 9:
		return injectRuling(g, toss(9))
	case 10:
		return ctlRuling(g, controls[toss(len(controls))])
	default:
		return pokeRuling(toss(9), toss(5), toss(101))
	}
}

// checkLive is the promise itself, for one operation or step: no slot of a live table changes but the one that is flushed, and that one becomes what was written.
func checkLive(t *testing.T, name string, before, after impl.Bare) int {
	t.Helper()
	changes := 0
	for g := range before.Guests {
		for page := range 4 {
			if after.Guests[g].Live[page] == before.Guests[g].Live[page] {
				continue
			}
			changes++
			if name != flushRuling(g, page).name || after.Guests[g].Live[page] != before.Guests[g].Written[page] {
				t.Errorf("%s in %+v changed page %d of the live table of guest %d: %+v", name, before, page, g, after)
			}
		}
	}
	return changes
}

// TestLiveTablesChangeWithAFlushAlone runs many pairs of guests between operations on them.
func TestLiveTablesChangeWithAFlushAlone(t *testing.T) {
	toss, changes := tossed(19), 0
	for range 300 {
		b := bareOf(tossedGuest(toss), tossedGuest(toss))
		for range 80 {
			r := tossedRuling(toss)
			checkRuling(t, r, b)
			after, _ := r.call(b)
			changes += checkLive(t, r.name, b, after)
			if wantBareOk(b) && !wantBareOk(after) {
				t.Errorf("%s makes %+v invalid: %+v", r.name, b, after)
			}
			g := toss(2)
			checkStep(t, after, g)
			b, _ = impl.BareStep(after, g)
			if checkLive(t, "a step", after, b) > 0 {
				t.Errorf("a step of guest %d changed a live table", g)
			}
		}
	}
	if changes < 1000 {
		t.Errorf("only %d slots were flushed", changes)
	}
}

// TestRulingsAndMemory looks at the memory of arguments and results, for operations that are accepted and for others.
func TestRulingsAndMemory(t *testing.T) {
	for _, b := range someBares() {
		for g := range 2 {
			for _, r := range oneOfEachRuling(g) {
				checkBareStep(t, r.step(), b)
			}
		}
	}
	for _, at := range fewPlaces() {
		for g := -1; g < 3; g++ {
			for _, r := range rulingsOf(g) {
				checkBareStep(t, r.step(), at.b)
			}
		}
	}
}

// TestRulingsOfOneMemory has a machine whose slices share their memory: only what the operation names changes, and the argument stays as it is.
func TestRulingsOfOneMemory(t *testing.T) {
	for _, e := range fewExits {
		b := oneMemory()
		for g := range b.Guests {
			b.Guests[g].Exit = e
		}
		kept := keepsBare(b)
		for g := range b.Guests {
			for _, r := range slices.Concat(rulingsOf(g), oneOfEachRuling(g)) {
				checkRuling(t, r, b)
				checkBareApart(t, r.name, r.step().call(b))
				if !kept() {
					t.Errorf("%s in a machine of one memory, or writing to its result, changes the machine", r.name)
				}
			}
		}
	}
}

// TestRulingsTwice applies two operations to the same machine, whose slices have a spare capacity: neither is in the other result.
func TestRulingsTwice(t *testing.T) {
	for _, at := range fewPlaces() {
		b := bareWithSpare(at.b, 50)
		for _, r := range oneOfEachRuling(at.g) {
			for _, other := range oneOfEachRuling(at.g) {
				first, _ := r.call(b)
				second, _ := other.call(b)
				third, _ := other.call(first)
				wantFirst, _ := r.want(at.b)
				wantSecond, _ := other.want(at.b)
				wantThird, _ := other.want(wantFirst)
				if !equalBares(first, wantFirst) || !equalBares(second, wantSecond) || !equalBares(third, wantThird) {
					t.Errorf("%s and %s in %+v give %+v, %+v and %+v", r.name, other.name, at.b, first, second, third)
				}
			}
		}
	}
}

// TestRulingsOfNilAndEmpty has the same machine with slices that are nil and empty.
func TestRulingsOfNilAndEmpty(t *testing.T) {
	for _, e := range fewExits {
		with, without := guestWith(func(g *impl.Guest) { g.Exit = e }), guestWith(func(g *impl.Guest) { g.Exit = e })
		with.Seen, without.Seen = []int{}, nil
		a, b := bareOf(with), bareOf(without)
		a.Outs, b.Outs = make([]int, 0, 3), nil
		for g := -1; g < 2; g++ {
			for _, r := range slices.Concat(rulingsOf(g), oneOfEachRuling(g)) {
				checkSameBare(t, r.step().call(a), r.step().call(b), true)
				checkRuling(t, r, a)
				checkRuling(t, r, b)
			}
		}
	}
	for _, b := range []impl.Bare{{}, {Memory: [][]int{}, Guests: []impl.Guest{}, Outs: []int{}}} {
		for g := -1; g < 2; g++ {
			for _, r := range rulingsOf(g) {
				checkNoRuling(t, r, b)
			}
		}
	}
}

// TestRulingsKeepNoState repeats calls, also after others with different arguments.
func TestRulingsKeepNoState(t *testing.T) {
	all := append(fewPlaces(), placed{impl.Bare{}, 0}, placed{fullBare(), 1})
	for range 2 {
		for i, at := range all {
			for _, x := range []placed{at, all[len(all)-1-i], at, at} {
				for _, r := range slices.Concat(rulingsOf(x.g), oneOfEachRuling(x.g)) {
					checkRuling(t, r, x.b)
					checkRuling(t, r, at.b)
				}
			}
		}
	}
}
