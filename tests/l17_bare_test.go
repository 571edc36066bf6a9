package tests

import (
	"fmt"
	"math"
	"slices"
	"testing"

	"loop.example/g00975/impl"
)

// outLengths lie around 0 and on both sides of 40, the most values that a machine puts out.
var outLengths = []int{0, 1, 2, 38, 39, 40, 41, 42, 80, 300}

// spares are the lengths of the capacity behind the slices of an argument.
var spares = []int{0, 1, 50}

// otherGuest returns a valid guest that differs from the full one in every field. It cannot run.
func otherGuest() impl.Guest {
	return impl.Guest{
		Prog:    []impl.Ins{{Op: 4, X: 15}, {Op: 7}},
		A:       99,
		Pc:      12,
		Written: []impl.Slot{{Page: 7, Rights: 1}, {Page: 3, Rights: 2}, {Page: 4, Rights: 3}, {Page: -1}},
		Live:    []impl.Slot{{Page: -1}, {Page: 0, Rights: 3}, {Page: 7, Rights: 2}, {Page: 3, Rights: 1}},
		Ctl:     impl.Ctl{Traps: 3, Post: 129, Open: true},
		Pending: 128,
		Exit:    impl.Exit{Kind: 2, N: 8},
		Halted:  true,
		Seen:    []int{1, 2},
	}
}

// thirdGuest returns a valid guest that differs from the full one and from the other one.
func thirdGuest() impl.Guest {
	return impl.Guest{
		Prog:    []impl.Ins{{Op: 8, X: 11}},
		A:       1,
		Written: slices.Repeat([]impl.Slot{{Page: 1, Rights: 1}}, 4),
		Live:    slices.Repeat([]impl.Slot{{Page: 2, Rights: 3}}, 4),
		Seen:    []int{9},
	}
}

// fullBare returns a valid machine with two guests. All its slices have elements, and no two of them are equal.
func fullBare() impl.Bare {
	return impl.Bare{Memory: memoryOf(8, 4), Guests: []impl.Guest{fullGuest(), otherGuest()}, Outs: []int{5, 99, 0}, Pending: 33}
}

// bareWith returns a copy of the full machine after a change.
func bareWith(change func(b *impl.Bare)) impl.Bare {
	b := fullBare()
	change(&b)
	return b
}

// cloneBare copies a machine without the help of the program.
func cloneBare(b impl.Bare) impl.Bare {
	guests := make([]impl.Guest, len(b.Guests))
	for i, g := range b.Guests {
		guests[i] = cloneGuest(g)
	}
	return impl.Bare{Memory: cloneMemory(b.Memory), Guests: guests, Outs: slices.Clone(b.Outs), Pending: b.Pending}
}

// equalBares compares two machines without the help of the program.
func equalBares(a, b impl.Bare) bool {
	return equalMemory(a.Memory, b.Memory) && slices.EqualFunc(a.Guests, b.Guests, equalGuests) && slices.Equal(a.Outs, b.Outs) && a.Pending == b.Pending
}

// spoilBare overwrites all memory of a machine, also the capacity behind its slices.
func spoilBare(b impl.Bare) {
	pages, guests := b.Memory[:cap(b.Memory)], b.Guests[:cap(b.Guests)]
	spoilMemory(pages)
	for i := range pages {
		pages[i] = []int{-77}
	}
	for i, g := range guests {
		spoilGuest(g)
		guests[i] = impl.Guest{A: -77}
	}
	spoilNumbers(b.Outs)
}

// listWithSpare returns a copy of the list in front of a spare capacity.
func listWithSpare[T any](list, spare []T) []T {
	return slices.Concat(list, spare)[:len(list)]
}

// bareWithSpare returns a copy of the machine, all of whose slices lie in front of a spare capacity.
func bareWithSpare(b impl.Bare, spare int) impl.Bare {
	pages, guests := cloneMemory(b.Memory), slices.Clone(b.Guests)
	for i, cells := range pages {
		pages[i] = listWithSpare(cells, seenOfLength(spare))
	}
	for i, g := range guests {
		guests[i], _ = guestWithSpare(g, spare)
	}
	return impl.Bare{
		Memory:  listWithSpare(pages, memoryOf(spare, 4)),
		Guests:  listWithSpare(guests, slices.Repeat([]impl.Guest{fullGuest()}, spare)),
		Outs:    listWithSpare(b.Outs, seenOfLength(spare)),
		Pending: b.Pending,
	}
}

// wholeGuest and wholeBare return copies in which each slice also has what lies behind it.

func wholeGuest(g impl.Guest) impl.Guest {
	g.Prog, g.Seen = g.Prog[:cap(g.Prog)], g.Seen[:cap(g.Seen)]
	g.Written, g.Live = g.Written[:cap(g.Written)], g.Live[:cap(g.Live)]
	return cloneGuest(g)
}

func wholeBare(b impl.Bare) impl.Bare {
	whole := impl.Bare{Outs: slices.Clone(b.Outs[:cap(b.Outs)]), Pending: b.Pending}
	for _, cells := range b.Memory[:cap(b.Memory)] {
		whole.Memory = append(whole.Memory, slices.Clone(cells[:cap(cells)]))
	}
	for _, g := range b.Guests[:cap(b.Guests)] {
		whole.Guests = append(whole.Guests, wholeGuest(g))
	}
	return whole
}

// keepsBare returns a function that reports whether the machine is still as it was, also behind its slices.
func keepsBare(b impl.Bare) func() bool {
	front, whole := cloneBare(b), wholeBare(b)
	return func() bool { return equalBares(b, front) && equalBares(wholeBare(b), whole) }
}

// overlap reports whether two of the lists share memory, also behind their ends. It fills list n with element(n), and looks whether a later list has overwritten it.
func overlap[T comparable](lists [][]T, element func(n int) T) bool {
	for n, list := range lists {
		whole := list[:cap(list)]
		for i := range whole {
			whole[i] = element(n)
		}
	}
	for n, list := range lists {
		for _, x := range list[:cap(list)] {
			if x != element(n) {
				return true
			}
		}
	}
	return false
}

// checkBareApart fails if two slices of a machine share memory. It overwrites the machine.
func checkBareApart(t *testing.T, name string, b impl.Bare) {
	t.Helper()
	numbers := append(slices.Clone(b.Memory), b.Outs)
	var tables [][]impl.Slot
	var progs [][]impl.Ins
	for _, g := range b.Guests {
		numbers = append(numbers, g.Seen)
		tables = append(tables, g.Written, g.Live)
		progs = append(progs, g.Prog)
	}
	if overlap(numbers, func(n int) int { return n }) {
		t.Errorf("pages, values put out or values seen of %s share memory", name)
	}
	if overlap(tables, func(n int) impl.Slot { return impl.Slot{Page: n} }) {
		t.Errorf("tables of %s share memory", name)
	}
	if overlap(progs, func(n int) impl.Ins { return impl.Ins{Op: n} }) {
		t.Errorf("programs of %s share memory", name)
	}
}

// The functions wantNewGuest to wantPutOut do what chapter 17 says, without the help of the program.

func wantNewGuest(p []impl.Ins) impl.Guest {
	none := impl.Slot{Page: -1}
	return impl.Guest{Prog: slices.Clone(p), Written: []impl.Slot{none, none, none, none}, Live: []impl.Slot{none, none, none, none}}
}

func wantBareNew(progs [][]impl.Ins) impl.Bare {
	want := impl.Bare{Memory: make([][]int, 8)}
	for i := range want.Memory {
		want.Memory[i] = []int{0, 0, 0, 0}
	}
	if len(progs) > 0 {
		want.Guests = append(want.Guests, wantNewGuest(progs[0]))
	}
	if len(progs) > 1 {
		want.Guests = append(want.Guests, wantNewGuest(progs[1]))
	}
	return want
}

func wantMemOk(m [][]int) bool {
	for _, cells := range m {
		if len(cells) != 4 || slices.ContainsFunc(cells, func(v int) bool { return missing(100, v) }) {
			return false
		}
	}
	return len(m) == 8
}

func wantBareOk(b impl.Bare) bool {
	for _, g := range b.Guests {
		if !wantGuestOk(g) {
			return false
		}
	}
	return wantMemOk(b.Memory) && (len(b.Guests) == 1 || len(b.Guests) == 2) && len(b.Outs) <= 40 && !missing(256, b.Pending)
}

func wantGuestAt(b impl.Bare, g int) (impl.Guest, bool) {
	if missing(len(b.Guests), g) {
		return impl.Guest{}, false
	}
	return cloneGuest(b.Guests[g]), true
}

func wantWithGuest(b impl.Bare, g int, x impl.Guest) impl.Bare {
	want := cloneBare(b)
	if !missing(len(b.Guests), g) {
		want.Guests[g] = cloneGuest(x)
	}
	return want
}

func wantPutOut(b impl.Bare, n int) impl.Bare {
	want := cloneBare(b)
	if len(b.Outs) <= 39 {
		want.Outs = append(want.Outs, n)
	}
	return want
}

// bareStep is one change of a machine: the call, and what it is expected to return.
type bareStep struct {
	name string
	call func(b impl.Bare) impl.Bare
	want func(b impl.Bare) impl.Bare
}

func withGuestStep(g int, x impl.Guest) bareStep {
	return bareStep{fmt.Sprintf("WithGuest at %d of %+v", g, x),
		func(b impl.Bare) impl.Bare { return impl.WithGuest(b, g, x) },
		func(b impl.Bare) impl.Bare { return wantWithGuest(b, g, x) }}
}

func putOutStep(n int) bareStep {
	return bareStep{fmt.Sprintf("PutOut of %d", n),
		func(b impl.Bare) impl.Bare { return impl.PutOut(b, n) },
		func(b impl.Bare) impl.Bare { return wantPutOut(b, n) }}
}

// bareSteps are each kind of step.
func bareSteps() []bareStep {
	steps := []bareStep{putOutStep(0), putOutStep(7), putOutStep(99), putOutStep(100), putOutStep(-1), putOutStep(math.MinInt), putOutStep(math.MaxInt)}
	for _, g := range []int{0, 1, 2, 3, -1, math.MinInt, math.MaxInt, 1 << 32} {
		steps = append(steps, withGuestStep(g, thirdGuest()))
	}
	return append(steps, withGuestStep(0, impl.Guest{}), withGuestStep(1, impl.Guest{A: -1, Seen: seenOfLength(41)}))
}

// checkBareResult compares what a step returns with what is expected, and leaves the memory to checkBareStep, which is slower.
func checkBareResult(t *testing.T, step bareStep, b impl.Bare) {
	t.Helper()
	if got, want := step.call(b), step.want(b); !equalBares(got, want) {
		t.Errorf("%s of %+v = %+v; want %+v", step.name, b, got, want)
	}
}

// checkBareStep fails if the step does not return what is expected, if the argument or the spare capacity behind it was modified, or if the result shares memory with it, with the result of the same call before, or in itself.
func checkBareStep(t *testing.T, step bareStep, b impl.Bare) {
	t.Helper()
	want := step.want(b)
	for _, spare := range spares {
		given := bareWithSpare(b, spare)
		kept := keepsBare(given)
		got, again := step.call(given), step.call(given)
		if !equalBares(got, want) || !equalBares(again, want) {
			t.Errorf("%s of %+v = %+v, and then %+v; want %+v", step.name, b, got, again, want)
		}
		if !kept() {
			t.Errorf("%s of %+v, spare %d, modified its argument", step.name, b, spare)
		}
		spoilBare(got)
		if !kept() {
			t.Errorf("writing to %s of %+v, spare %d, changes its argument", step.name, b, spare)
		}
		spoilBare(given)
		if !equalBares(again, want) {
			t.Errorf("%s of %+v, spare %d, changes with its argument or with another result", step.name, b, spare)
		}
		checkBareApart(t, step.name, again)
	}
	checkBareApart(t, step.name, step.call(b))
}

// checkAsksBare compares BareOk with what chapter 17 says, and looks whether it modifies the machine.
func checkAsksBare(t *testing.T, b impl.Bare) {
	t.Helper()
	for _, spare := range spares {
		given := bareWithSpare(b, spare)
		kept := keepsBare(given)
		if got, want := impl.BareOk(given), wantBareOk(b); got != want {
			t.Errorf("BareOk(%+v) = %v; want %v", b, got, want)
		}
		if !kept() {
			t.Errorf("BareOk modified %+v", b)
		}
	}
}

// checkGuestAt compares GuestAt with what chapter 17 says, and looks at the memory of the machine and of the guest.
func checkGuestAt(t *testing.T, b impl.Bare, g int) {
	t.Helper()
	want, wantOk := wantGuestAt(b, g)
	for _, spare := range spares {
		given := bareWithSpare(b, spare)
		kept := keepsBare(given)
		got, ok := impl.GuestAt(given, g)
		again, againOk := impl.GuestAt(given, g)
		if !equalGuests(got, want) || ok != wantOk || !equalGuests(again, want) || againOk != wantOk {
			t.Errorf("GuestAt(%+v, %d) = %+v, %v, and then %+v, %v; want %+v, %v", b, g, got, ok, again, againOk, want, wantOk)
		}
		spoilGuest(got)
		if !kept() {
			t.Errorf("GuestAt(%+v, %d), spare %d, or writing to its result, changes its argument", b, g, spare)
		}
		spoilBare(given)
		if !equalGuests(again, want) {
			t.Errorf("GuestAt(%+v, %d), spare %d, changes with its argument or with another result", b, g, spare)
		}
		checkGuestApart(t, "GuestAt", again)
	}
	alone, _ := impl.GuestAt(b, g)
	checkGuestApart(t, "GuestAt", alone)
}

// checkPlacedGuest looks at the memory of the guest that WithGuest is given.
func checkPlacedGuest(t *testing.T, b impl.Bare, g int, x impl.Guest) {
	t.Helper()
	want := wantWithGuest(b, g, x)
	for _, spare := range spares {
		given, whole := guestWithSpare(x, spare)
		before := cloneGuest(whole)
		got, again := impl.WithGuest(b, g, given), impl.WithGuest(b, g, given)
		if !equalBares(got, want) || !equalGuests(given, x) {
			t.Errorf("WithGuest(%+v, %d, %+v) = %+v; want %+v", b, g, x, got, want)
		}
		spoilBare(got)
		if !equalGuests(whole, before) {
			t.Errorf("WithGuest(%+v, %d, %+v), spare %d, or writing to its result, changes the guest", b, g, x, spare)
		}
		spoilGuest(whole)
		if !equalBares(again, want) {
			t.Errorf("WithGuest(%+v, %d, %+v), spare %d, changes with the guest", b, g, x, spare)
		}
		checkBareApart(t, "WithGuest", again)
	}
}

func checkSameBare(t *testing.T, a, b impl.Bare, want bool) {
	t.Helper()
	if got := impl.SameBare(a, b); got != want {
		t.Errorf("SameBare(%+v, %+v) = %v; want %v", a, b, got, want)
	}
	if got := impl.SameBare(b, a); got != want {
		t.Errorf("SameBare(%+v, %+v) = %v; want %v", b, a, got, want)
	}
}

// manyGuests returns n guests, no two of which are equal.
func manyGuests(n int) []impl.Guest {
	guests := make([]impl.Guest, n)
	for i := range guests {
		guests[i] = guestWith(func(g *impl.Guest) { g.A = i })
	}
	return guests
}

// oneMemory returns a machine whose slices of equal type share their memory.
func oneMemory() impl.Bare {
	g := fullGuest()
	numbers := []int{1, 2, 3, 4}
	g.Live, g.Seen = g.Written, numbers
	return impl.Bare{Memory: slices.Repeat([][]int{numbers}, 8), Guests: []impl.Guest{g, g}, Outs: numbers}
}

// someBares returns machines of every kind: valid and not, with memories and guests of many kinds, with every number of values put out, with nil and empty slices, and with slices that share their memory.
func someBares() []impl.Bare {
	all := []impl.Bare{
		{}, fullBare(), oneMemory(), {Pending: -1}, {Memory: [][]int{}, Guests: []impl.Guest{}, Outs: []int{}},
		{Memory: [][]int{nil, {}, make([]int, 0, 3)}, Guests: []impl.Guest{{}, {Seen: []int{}, Prog: []impl.Ins{}, Written: []impl.Slot{}, Live: []impl.Slot{}}}, Outs: make([]int, 0, 50)},
	}
	for n := range 5 {
		all = append(all, bareWith(func(b *impl.Bare) { b.Guests = manyGuests(n) }))
		all = append(all, bareWith(func(b *impl.Bare) { b.Guests = make([]impl.Guest, n) }))
	}
	for _, n := range outLengths {
		all = append(all, bareWith(func(b *impl.Bare) { b.Outs = seenOfLength(n) }))
		all = append(all, bareWith(func(b *impl.Bare) { b.Outs, b.Guests, b.Pending = seenOfLength(n), nil, 256 }))
	}
	for _, m := range [][][]int{nil, unevenMemory(), memoryOf(1, 4), memoryOf(7, 4), memoryOf(9, 4), memoryOf(8, 3), memoryOf(8, 5), memoryOf(8, 0), memoryOf(60, 4)} {
		all = append(all, bareWith(func(b *impl.Bare) { b.Memory = m }))
	}
	for _, change := range bareChanges {
		all = append(all, bareWith(change))
	}
	return all
}

// bareChanges change one field of the full machine each.
var bareChanges = []func(b *impl.Bare){
	func(b *impl.Bare) { b.Memory[0][0]++ },
	func(b *impl.Bare) { b.Memory[7][3]-- },
	func(b *impl.Bare) { b.Memory[3][2] = -1 },
	func(b *impl.Bare) { b.Memory[3][2] += 1 << 32 },
	func(b *impl.Bare) { b.Memory[4] = append(b.Memory[4], 0) },
	func(b *impl.Bare) { b.Memory[4] = b.Memory[4][:3] },
	func(b *impl.Bare) { b.Memory[4] = nil },
	func(b *impl.Bare) { b.Memory[1], b.Memory[2] = b.Memory[2], b.Memory[1] },
	func(b *impl.Bare) { b.Memory = append(b.Memory, []int{0, 0, 0, 0}) },
	func(b *impl.Bare) { b.Memory = append(b.Memory, nil) },
	func(b *impl.Bare) { b.Memory = b.Memory[:7] },
	func(b *impl.Bare) { b.Memory = nil },
	func(b *impl.Bare) { b.Guests = append(b.Guests, thirdGuest()) },
	func(b *impl.Bare) { b.Guests = append(b.Guests, impl.Guest{}) },
	func(b *impl.Bare) { b.Guests = b.Guests[:1] },
	func(b *impl.Bare) { b.Guests = b.Guests[1:] },
	func(b *impl.Bare) { b.Guests = nil },
	func(b *impl.Bare) { slices.Reverse(b.Guests) },
	func(b *impl.Bare) { b.Outs[0]++ },
	func(b *impl.Bare) { b.Outs[2]-- },
	func(b *impl.Bare) { b.Outs[1] += 1 << 32 },
	func(b *impl.Bare) { b.Outs = append(b.Outs, 0) },
	func(b *impl.Bare) { b.Outs = b.Outs[:2] },
	func(b *impl.Bare) { b.Outs = nil },
	func(b *impl.Bare) { slices.Reverse(b.Outs) },
	func(b *impl.Bare) { b.Pending++ },
	func(b *impl.Bare) { b.Pending = 0 },
	func(b *impl.Bare) { b.Pending = -1 },
	func(b *impl.Bare) { b.Pending += 1 << 32 },
}

// guestsToPlace returns guests that are valid and guests that are not.
func guestsToPlace() []impl.Guest {
	return []impl.Guest{
		fullGuest(), otherGuest(), thirdGuest(), {}, {A: -1, Pc: math.MaxInt, Pending: -1},
		{Prog: progOfLength(30), Written: slotsOfLength(9), Live: slotsOfLength(1), Seen: seenOfLength(80)},
		{Prog: []impl.Ins{}, Written: []impl.Slot{}, Live: make([]impl.Slot, 0, 2), Seen: make([]int, 0, 2)},
	}
}

func TestBareNumbers(t *testing.T) {
	if impl.MaxOuts != 40 {
		t.Error("MaxOuts is", impl.MaxOuts)
	}
}

// progLists returns lists of programs of every length around 2, with valid programs and others in every place.
func progLists() [][][]impl.Ins {
	lists := [][][]impl.Ins{nil, {}, make([][]impl.Ins, 0, 4)}
	few := [][]impl.Ins{nil, {}, {{Op: 7}}, progOfLength(3), progOfLength(12), progOfLength(13), {{Op: 1, X: 100}}}
	for _, p := range newProgs() {
		lists = append(lists, [][]impl.Ins{p}, [][]impl.Ins{p, p}, [][]impl.Ins{p, {{Op: 7}}}, [][]impl.Ins{{{Op: 7}}, p}, [][]impl.Ins{{{Op: 7}}, {{Op: 7}}, p})
	}
	for _, p := range few {
		for _, q := range few {
			lists = append(lists, [][]impl.Ins{p, q}, [][]impl.Ins{p, q, progOfLength(5)}, [][]impl.Ins{p, q, nil, progOfLength(5), {}})
		}
	}
	return append(lists, make([][]impl.Ins, 1), make([][]impl.Ins, 2), make([][]impl.Ins, 3), slices.Repeat([][]impl.Ins{progOfLength(4)}, 100))
}

func TestBareNew(t *testing.T) {
	for _, progs := range progLists() {
		got := impl.BareNew(progs)
		if want := wantBareNew(progs); !equalBares(got, want) {
			t.Errorf("BareNew(%v) = %+v; want %+v", progs, got, want)
		}
		if !impl.SameMem(got.Memory, impl.MemNew(impl.MonPages)) || len(got.Guests) != min(len(progs), impl.MaxGuests) || len(got.Outs) != 0 || got.Pending != 0 {
			t.Errorf("BareNew(%v) = %+v", progs, got)
		}
		for g, x := range got.Guests {
			if !impl.SameGuest(x, impl.GuestNew(progs[g])) {
				t.Errorf("guest %d of BareNew(%v) is %+v; want GuestNew of its program", g, progs, x)
			}
		}
	}
}

// TestBareNewIsValid is the promise itself: a new machine is valid if it has a guest and the programs of its guests are valid. Programs that get no guest do not matter.
func TestBareNewIsValid(t *testing.T) {
	for _, progs := range progLists() {
		used := progs[:min(len(progs), 2)]
		want := len(used) > 0 && !slices.ContainsFunc(used, func(p []impl.Ins) bool { return !wantProgOk(p) })
		if got := impl.BareOk(impl.BareNew(progs)); got != want {
			t.Errorf("BareOk of BareNew(%v) = %v; want %v", progs, got, want)
		}
	}
}

func TestBareNewBounds(t *testing.T) {
	halt, long, bad := []impl.Ins{{Op: impl.OpHalt}}, progOfLength(12), []impl.Ins{{Op: impl.OpHalt, X: 1}}
	for _, c := range []struct {
		name   string
		progs  [][]impl.Ins
		guests int
		valid  bool
	}{
		{"nil", nil, 0, false},
		{"no program", [][]impl.Ins{}, 0, false},
		{"one", [][]impl.Ins{halt}, 1, true},
		{"one of 12", [][]impl.Ins{long}, 1, true},
		{"one of 13", [][]impl.Ins{progOfLength(13)}, 1, false},
		{"one that is nil", [][]impl.Ins{nil}, 1, false},
		{"one that is empty", [][]impl.Ins{{}}, 1, false},
		{"one that is not valid", [][]impl.Ins{bad}, 1, false},
		{"two", [][]impl.Ins{halt, long}, 2, true},
		{"two, the first not valid", [][]impl.Ins{bad, long}, 2, false},
		{"two, the second not valid", [][]impl.Ins{halt, bad}, 2, false},
		{"two, the first empty", [][]impl.Ins{{}, long}, 2, false},
		{"two, the second nil", [][]impl.Ins{halt, nil}, 2, false},
		{"three", [][]impl.Ins{halt, long, halt}, 2, true},
		{"three, the third not valid", [][]impl.Ins{halt, long, bad}, 2, true},
		{"three, the third nil", [][]impl.Ins{halt, long, nil}, 2, true},
		{"three, the second not valid", [][]impl.Ins{halt, bad, long}, 2, false},
		{"many", slices.Repeat([][]impl.Ins{halt}, 1000), 2, true},
	} {
		b := impl.BareNew(c.progs)
		if len(b.Guests) != c.guests || impl.BareOk(b) != c.valid {
			t.Errorf("BareNew of programs %s has %d guests and is valid: %v; want %d, %v", c.name, len(b.Guests), impl.BareOk(b), c.guests, c.valid)
		}
		for g := range b.Guests {
			if !slices.Equal(b.Guests[g].Prog, c.progs[g]) {
				t.Errorf("BareNew of programs %s: guest %d has %v", c.name, g, b.Guests[g].Prog)
			}
		}
	}
}

// listOfProgsWithSpare returns a copy of the list in front of a spare capacity, and so is each program of it. The second result also has what lies behind.
func listOfProgsWithSpare(progs [][]impl.Ins, spare int) (front, wholes [][]impl.Ins) {
	fronts := slices.Repeat([][]impl.Ins{{{Op: 7}}}, len(progs)+spare)
	for i, p := range progs {
		given, whole := progWithSpare(p, progOfLength(spare)...)
		fronts[i], wholes = given, append(wholes, whole)
	}
	return fronts[:len(progs)], wholes
}

func equalProgs(a, b [][]impl.Ins) bool {
	return slices.EqualFunc(a, b, slices.Equal[[]impl.Ins])
}

func cloneProgs(progs [][]impl.Ins) [][]impl.Ins {
	clones := make([][]impl.Ins, len(progs))
	for i, p := range progs {
		clones[i] = slices.Clone(p)
	}
	return clones
}

func TestBareNewIsNewMemory(t *testing.T) {
	for _, progs := range progLists() {
		want := wantBareNew(progs)
		for _, spare := range spares {
			given, wholes := listOfProgsWithSpare(progs, spare)
			heads, before := cloneProgs(given[:cap(given)]), cloneProgs(wholes)
			kept := func() bool { return equalProgs(given[:cap(given)], heads) && equalProgs(wholes, before) }
			got, again := impl.BareNew(given), impl.BareNew(given)
			spoilBare(got)
			if !kept() {
				t.Errorf("BareNew(%v), spare %d, or writing to its result, changes the programs", progs, spare)
			}
			for _, whole := range wholes {
				spoilProg(whole)
			}
			if !equalBares(again, want) {
				t.Errorf("BareNew(%v), spare %d, changes with the programs or with another result", progs, spare)
			}
			checkBareApart(t, "BareNew", again)
		}
		checkBareApart(t, "BareNew", impl.BareNew(progs))
	}
}

func TestBareOk(t *testing.T) {
	for _, b := range someBares() {
		checkAsksBare(t, b)
	}
}

// TestBareOkOfGuests has every kind of guest alone, and as each of two.
func TestBareOkOfGuests(t *testing.T) {
	guests := someGuests()
	for _, c := range slices.Concat(validControls(), someControls()) {
		for _, p := range []int{0, 255} {
			guests = append(guests, guestWith(func(g *impl.Guest) { g.Ctl, g.Pending = c, p }))
		}
	}
	for _, e := range slices.Concat(validExits(), someExits()) {
		guests = append(guests, guestWith(func(g *impl.Guest) { g.Exit = e }))
	}
	for _, g := range guests {
		for _, guests := range [][]impl.Guest{{g}, {g, otherGuest()}, {thirdGuest(), g}, {g, g}} {
			b := bareWith(func(b *impl.Bare) { b.Guests = guests })
			if got, want := impl.BareOk(b), wantGuestOk(g); got != want {
				t.Errorf("BareOk of a machine with the guests %+v = %v; want %v", guests, got, want)
			}
		}
	}
}

// TestBareOkOfMemory has every page and cell in turn, with values around the range of a cell.
func TestBareOkOfMemory(t *testing.T) {
	for page := range 8 {
		for _, cells := range [][]int{nil, {}, {1, 2, 3}, {1, 2, 3, 4, 5}, {0, 0, 0, 0}, {99, 99, 99, 99}} {
			b := bareWith(func(b *impl.Bare) { b.Memory[page] = cells })
			if got := impl.BareOk(b); got != (len(cells) == 4) {
				t.Errorf("BareOk with %v as page %d = %v", cells, page, got)
			}
		}
		for cell := range 4 {
			for _, v := range slices.Concat(goodValues, badValues, cellsAround) {
				b := bareWith(func(b *impl.Bare) { b.Memory[page][cell] = v })
				if got := impl.BareOk(b); got != (0 <= v && v <= 99) {
					t.Errorf("BareOk with %d in cell %d of page %d = %v", v, cell, page, got)
				}
			}
		}
	}
	for n := range 30 {
		if got := impl.BareOk(bareWith(func(b *impl.Bare) { b.Memory = memoryOf(n, 4) })); got != (n == 8) {
			t.Errorf("BareOk with %d pages = %v", n, got)
		}
	}
}

// TestBareOkOfOuts has any values: only their number matters.
func TestBareOkOfOuts(t *testing.T) {
	for n := range 100 {
		for _, first := range append([]int{0, 99, 100}, oddNumbers...) {
			b := bareWith(func(b *impl.Bare) { b.Outs = seenOfLength(n) })
			if n > 0 {
				b.Outs[0] = first
			}
			if got := impl.BareOk(b); got != (n < 41) {
				t.Errorf("BareOk with %d values put out, %d first, = %v", n, first, got)
			}
		}
	}
}

func TestBareOkOfPending(t *testing.T) {
	for _, p := range slices.Concat(numbersAround(300), fewSets, setsOutside()) {
		if got := impl.BareOk(bareWith(func(b *impl.Bare) { b.Pending = p })); got != (0 <= p && p <= 255) {
			t.Errorf("BareOk with Pending %d = %v", p, got)
		}
	}
}

func TestBareOkBounds(t *testing.T) {
	for _, c := range []struct {
		name   string
		change func(b *impl.Bare)
		want   bool
	}{
		{"nothing changed", func(b *impl.Bare) {}, true},
		{"one guest", func(b *impl.Bare) { b.Guests = b.Guests[:1] }, true},
		{"no guest", func(b *impl.Bare) { b.Guests = nil }, false},
		{"an empty list of guests", func(b *impl.Bare) { b.Guests = []impl.Guest{} }, false},
		{"three guests", func(b *impl.Bare) { b.Guests = manyGuests(3) }, false},
		{"the first guest not valid", func(b *impl.Bare) { b.Guests[0].A = 100 }, false},
		{"the second guest not valid", func(b *impl.Bare) { b.Guests[1].Pc = 13 }, false},
		{"the only guest not valid", func(b *impl.Bare) { b.Guests = []impl.Guest{{}} }, false},
		{"the first guest with Pending 256", func(b *impl.Bare) { b.Guests[0].Pending = 256 }, false},
		{"the second guest that saw 41 values", func(b *impl.Bare) { b.Guests[1].Seen = seenOfLength(41) }, false},
		{"the second guest that saw 40 values", func(b *impl.Bare) { b.Guests[1].Seen = seenOfLength(40) }, true},
		{"the second guest that maps page 8", func(b *impl.Bare) { b.Guests[1].Live[1].Page = 8 }, false},
		{"no memory", func(b *impl.Bare) { b.Memory = nil }, false},
		{"7 pages", func(b *impl.Bare) { b.Memory = b.Memory[:7] }, false},
		{"9 pages", func(b *impl.Bare) { b.Memory = append(b.Memory, []int{0, 0, 0, 0}) }, false},
		{"12 pages", func(b *impl.Bare) { b.Memory = memoryOf(12, 4) }, false},
		{"a page of 3 cells", func(b *impl.Bare) { b.Memory[7] = []int{1, 2, 3} }, false},
		{"a page of 5 cells", func(b *impl.Bare) { b.Memory[0] = []int{1, 2, 3, 4, 5} }, false},
		{"a cell with 0", func(b *impl.Bare) { b.Memory[0][0] = 0 }, true},
		{"a cell with 99", func(b *impl.Bare) { b.Memory[7][3] = 99 }, true},
		{"a cell with -1", func(b *impl.Bare) { b.Memory[0][0] = -1 }, false},
		{"a cell with 100", func(b *impl.Bare) { b.Memory[7][3] = 100 }, false},
		{"a cell with the smallest int", func(b *impl.Bare) { b.Memory[7][0] = math.MinInt }, false},
		{"a cell with the largest int", func(b *impl.Bare) { b.Memory[0][3] = math.MaxInt }, false},
		{"no value put out", func(b *impl.Bare) { b.Outs = nil }, true},
		{"40 values put out", func(b *impl.Bare) { b.Outs = seenOfLength(40) }, true},
		{"41 values put out", func(b *impl.Bare) { b.Outs = seenOfLength(41) }, false},
		{"41 zeros put out", func(b *impl.Bare) { b.Outs = make([]int, 41) }, false},
		{"any value put out", func(b *impl.Bare) { b.Outs = []int{math.MinInt, -1, 100, math.MaxInt} }, true},
		{"Pending 0", func(b *impl.Bare) { b.Pending = 0 }, true},
		{"Pending 255", func(b *impl.Bare) { b.Pending = 255 }, true},
		{"Pending -1", func(b *impl.Bare) { b.Pending = -1 }, false},
		{"Pending 256", func(b *impl.Bare) { b.Pending = 256 }, false},
		{"Pending smallest", func(b *impl.Bare) { b.Pending = math.MinInt }, false},
		{"Pending largest", func(b *impl.Bare) { b.Pending = math.MaxInt }, false},
		{"the zero machine", func(b *impl.Bare) { *b = impl.Bare{} }, false},
	} {
		if b := bareWith(c.change); impl.BareOk(b) != c.want {
			t.Errorf("%s: BareOk(%+v) = %v; want %v", c.name, b, !c.want, c.want)
		}
	}
}

func TestGuestAt(t *testing.T) {
	for _, b := range someBares() {
		for g := range b.Guests {
			checkGuestAt(t, b, g)
		}
		for _, g := range indexesOutside(len(b.Guests)) {
			checkGuestAt(t, b, g)
		}
	}
}

func TestGuestAtBounds(t *testing.T) {
	three := bareWith(func(b *impl.Bare) { b.Guests = append(b.Guests, thirdGuest()) })
	for _, c := range []struct {
		b    impl.Bare
		g    int
		want impl.Guest
		ok   bool
	}{
		{fullBare(), 0, fullGuest(), true},
		{fullBare(), 1, otherGuest(), true},
		{fullBare(), 2, impl.Guest{}, false},
		{fullBare(), -1, impl.Guest{}, false},
		{fullBare(), math.MinInt, impl.Guest{}, false},
		{fullBare(), math.MaxInt, impl.Guest{}, false},
		{fullBare(), 1 << 32, impl.Guest{}, false},
		{three, 1, otherGuest(), true},
		{three, 2, thirdGuest(), true},
		{three, 3, impl.Guest{}, false},
		{impl.Bare{}, 0, impl.Guest{}, false},
		{impl.Bare{}, -1, impl.Guest{}, false},
		{impl.Bare{Guests: []impl.Guest{{A: -5}}, Pending: -1}, 0, impl.Guest{A: -5}, true},
		{impl.Bare{Guests: make([]impl.Guest, 1, 3)}, 1, impl.Guest{}, false},
		{impl.BareNew(nil), 0, impl.Guest{}, false},
	} {
		if got, ok := impl.GuestAt(c.b, c.g); !equalGuests(got, c.want) || ok != c.ok {
			t.Errorf("GuestAt(%+v, %d) = %+v, %v; want %+v, %v", c.b, c.g, got, ok, c.want, c.ok)
		}
	}
}

// TestWithGuest places every kind of guest at each index there is and at others.
func TestWithGuest(t *testing.T) {
	for _, b := range someBares() {
		for _, x := range guestsToPlace() {
			for g := range b.Guests {
				checkBareResult(t, withGuestStep(g, x), b)
			}
			for _, g := range indexesOutside(len(b.Guests)) {
				checkBareResult(t, withGuestStep(g, x), b)
			}
		}
	}
	for _, x := range someGuests() {
		for g := -1; g < 3; g++ {
			checkBareResult(t, withGuestStep(g, x), fullBare())
		}
	}
}

// TestWithGuestReadsBack expects GuestAt to find the guest that was placed, and all others as they were.
func TestWithGuestReadsBack(t *testing.T) {
	for _, b := range someBares() {
		for g := range b.Guests {
			for _, x := range guestsToPlace() {
				placed := impl.WithGuest(b, g, x)
				for other := range b.Guests {
					want := b.Guests[other]
					if other == g {
						want = x
					}
					if got, ok := impl.GuestAt(placed, other); !ok || !equalGuests(got, want) {
						t.Errorf("after guest %d of %+v was replaced by %+v, guest %d is %+v, %v", g, b, x, other, got, ok)
					}
				}
			}
		}
	}
}

func TestWithGuestBounds(t *testing.T) {
	x := thirdGuest()
	three := bareWith(func(b *impl.Bare) { b.Guests = append(b.Guests, fullGuest()) })
	for _, c := range []struct {
		b    impl.Bare
		g    int
		want []impl.Guest
	}{
		{fullBare(), 0, []impl.Guest{x, otherGuest()}},
		{fullBare(), 1, []impl.Guest{fullGuest(), x}},
		{fullBare(), 2, []impl.Guest{fullGuest(), otherGuest()}},
		{fullBare(), -1, []impl.Guest{fullGuest(), otherGuest()}},
		{fullBare(), math.MinInt, []impl.Guest{fullGuest(), otherGuest()}},
		{fullBare(), math.MaxInt, []impl.Guest{fullGuest(), otherGuest()}},
		{three, 2, []impl.Guest{fullGuest(), otherGuest(), x}},
		{three, 3, []impl.Guest{fullGuest(), otherGuest(), fullGuest()}},
		{impl.Bare{}, 0, nil},
		{impl.Bare{Pending: -1, Guests: []impl.Guest{{A: -5}}}, 0, []impl.Guest{x}},
		{impl.Bare{Guests: make([]impl.Guest, 1, 3)}, 1, []impl.Guest{{}}},
	} {
		want := cloneBare(c.b)
		want.Guests = c.want
		if got := impl.WithGuest(c.b, c.g, x); !equalBares(got, want) {
			t.Errorf("WithGuest(%+v, %d, %+v) = %+v; want %+v", c.b, c.g, x, got, want)
		}
	}
}

func TestWithGuestCopiesTheGuest(t *testing.T) {
	for _, b := range someBares() {
		for _, x := range guestsToPlace() {
			for g := -1; g <= len(b.Guests); g++ {
				checkPlacedGuest(t, b, g, x)
			}
		}
	}
}

// TestWithGuestOfTheMachine places a guest that is one of the machine itself.
func TestWithGuestOfTheMachine(t *testing.T) {
	for _, b := range someBares() {
		for from := range b.Guests {
			for to := range b.Guests {
				kept := keepsBare(b)
				want := wantWithGuest(b, to, b.Guests[from])
				got := impl.WithGuest(b, to, b.Guests[from])
				if !equalBares(got, want) {
					t.Errorf("guest %d of %+v as guest %d gives %+v", from, b, to, got)
				}
				checkBareApart(t, "WithGuest with a guest of the machine", got)
				if !kept() {
					t.Errorf("writing to the result of WithGuest(%+v, %d) with guest %d changes the machine", b, to, from)
				}
			}
		}
	}
}

func TestPutOut(t *testing.T) {
	for _, length := range outLengths {
		for _, n := range append(numbersAround(120), cellsAround...) {
			for _, guests := range [][]impl.Guest{nil, {otherGuest()}} {
				b := impl.Bare{Guests: guests, Outs: seenOfLength(length), Pending: 33}
				checkBareResult(t, putOutStep(n), b)
			}
		}
	}
}

func TestPutOutBounds(t *testing.T) {
	for _, n := range []int{0, 1, 99, 100, 107, -1, math.MinInt, math.MaxInt} {
		for _, c := range []struct {
			outs []int
			want []int
		}{
			{nil, []int{n}},
			{[]int{}, []int{n}},
			{[]int{8}, []int{8, n}},
			{[]int{n}, []int{n, n}},
			{seenOfLength(38), append(seenOfLength(38), n)},
			{seenOfLength(39), append(seenOfLength(39), n)},
			{seenOfLength(40), seenOfLength(40)},
			{seenOfLength(41), seenOfLength(41)},
			{seenOfLength(100), seenOfLength(100)},
		} {
			b := bareWith(func(b *impl.Bare) { b.Outs = c.outs })
			want := bareWith(func(b *impl.Bare) { b.Outs = c.want })
			if got := impl.PutOut(b, n); !equalBares(got, want) {
				t.Errorf("PutOut of %d after %d values = %+v; want %+v", n, len(c.outs), got, want)
			}
		}
	}
}

// TestPutOutUntilFull puts out more values than a machine keeps: the first 40 are kept, in order, and the machine stays valid.
func TestPutOutUntilFull(t *testing.T) {
	b := impl.BareNew([][]impl.Ins{progOfLength(3), progOfLength(12)})
	var want []int
	for n := range 60 {
		b = impl.PutOut(b, 500+n)
		if len(want) < 40 {
			want = append(want, 500+n)
		}
		if !slices.Equal(b.Outs, want) || !impl.BareOk(b) {
			t.Errorf("after %d values Outs is %v, and BareOk returns %v; want %v", n+1, b.Outs, impl.BareOk(b), want)
		}
	}
	if len(b.Outs) != 40 || b.Outs[0] != 500 || b.Outs[39] != 539 {
		t.Errorf("Outs is %v at the end", b.Outs)
	}
}

// TestPutOutTwice puts out two values after the same ones, which have a spare capacity: neither is in the other result.
func TestPutOutTwice(t *testing.T) {
	for _, length := range outLengths {
		b := bareWith(func(b *impl.Bare) { b.Outs = append(make([]int, 0, length+8), seenOfLength(length)...) })
		first := impl.PutOut(b, 1)
		second := impl.PutOut(b, 2)
		third := impl.PutOut(first, 3)
		fourth := impl.PutOut(first, 4)
		if !equalBares(first, wantPutOut(b, 1)) || !equalBares(second, wantPutOut(b, 2)) || !equalBares(third, wantPutOut(first, 3)) || !equalBares(fourth, wantPutOut(first, 4)) {
			t.Errorf("after %d values, Outs is %v and %v, and then %v and %v", length, first.Outs, second.Outs, third.Outs, fourth.Outs)
		}
	}
}

// TestBareSteps takes every kind of step with every kind of machine, and looks at the memory of arguments and results.
func TestBareSteps(t *testing.T) {
	for _, b := range someBares() {
		for _, step := range bareSteps() {
			checkBareStep(t, step, b)
		}
	}
}

// TestBareStepsInARow applies each step to the result of the one before.
func TestBareStepsInARow(t *testing.T) {
	steps := bareSteps()
	b := impl.BareNew([][]impl.Ins{progOfLength(3), progOfLength(12)})
	for i := range 300 {
		step := steps[i*i%len(steps)]
		checkBareStep(t, step, b)
		b = step.call(b)
		checkAsksBare(t, b)
		for g := -1; g < 3; g++ {
			checkGuestAt(t, b, g)
		}
		if i%11 == 0 {
			b.Outs, b.Pending = b.Outs[:len(b.Outs)/2], i%256
		}
	}
}

// TestValidBaresStayValid takes each kind of step with machines that are valid: they stay so, if only valid guests are placed.
func TestValidBaresStayValid(t *testing.T) {
	for _, b := range someBares() {
		for _, n := range cellsAround {
			if impl.BareOk(b) && !impl.BareOk(impl.PutOut(b, n)) {
				t.Errorf("PutOut of %d makes %+v invalid", n, b)
			}
		}
		for _, x := range guestsToPlace() {
			for g := range b.Guests {
				if impl.BareOk(b) && impl.BareOk(impl.WithGuest(b, g, x)) != impl.GuestOk(x) {
					t.Errorf("WithGuest of %+v at %d of %+v is valid: %v", x, g, b, !impl.GuestOk(x))
				}
			}
		}
	}
}

func TestSameBare(t *testing.T) {
	for i, change := range bareChanges {
		changed := bareWith(change)
		checkSameBare(t, changed, bareWith(change), true)
		checkSameBare(t, changed, fullBare(), false)
		checkSameBare(t, changed, impl.Bare{}, false)
		for _, other := range bareChanges[:i] {
			checkSameBare(t, changed, bareWith(other), false)
		}
	}
	for _, b := range someBares() {
		for _, spare := range spares {
			checkSameBare(t, b, bareWithSpare(b, spare), true)
		}
		checkSameBare(t, b, b, true)
	}
}

// TestSameBareOfGuests changes each field of each guest.
func TestSameBareOfGuests(t *testing.T) {
	for _, change := range guestChanges {
		changed := guestWith(change)
		for _, c := range [][2][]impl.Guest{
			{{changed}, {fullGuest()}},
			{{changed, otherGuest()}, {fullGuest(), otherGuest()}},
			{{otherGuest(), changed}, {otherGuest(), fullGuest()}},
			{{otherGuest(), otherGuest(), changed}, {otherGuest(), otherGuest(), fullGuest()}},
		} {
			a, b := bareWith(func(b *impl.Bare) { b.Guests = c[0] }), bareWith(func(b *impl.Bare) { b.Guests = c[1] })
			checkSameBare(t, a, b, false)
			checkSameBare(t, a, cloneBare(a), true)
		}
	}
}

// TestSameBareOfPairs compares every kind of machine with every other one.
func TestSameBareOfPairs(t *testing.T) {
	bares := someBares()
	for _, a := range bares {
		for _, b := range bares {
			if got, want := impl.SameBare(a, b), equalBares(a, b); got != want {
				t.Errorf("SameBare(%+v, %+v) = %v; want %v", a, b, got, want)
			}
		}
	}
}

// TestSameBareOfNilAndEmpty has the same machine with slices that are nil and empty, in every combination.
func TestSameBareOfNilAndEmpty(t *testing.T) {
	for bits := range 32 {
		with, without := impl.Bare{}, impl.Bare{}
		if bits&1 != 0 {
			with.Memory = [][]int{}
		}
		if bits&2 != 0 {
			with.Guests = make([]impl.Guest, 0, 2)
		}
		if bits&4 != 0 {
			with.Outs = make([]int, 0, 5)
		}
		if bits&8 != 0 {
			with.Memory, without.Memory = [][]int{{}, nil}, [][]int{nil, {}}
		}
		if bits&16 != 0 {
			with.Guests = []impl.Guest{{}, {Prog: []impl.Ins{}, Written: []impl.Slot{}, Live: []impl.Slot{}, Seen: []int{}}}
			without.Guests = []impl.Guest{{Prog: []impl.Ins{}}, {Seen: make([]int, 0, 3)}}
		}
		checkSameBare(t, with, without, true)
		checkSameBare(t, with, impl.Bare{Memory: without.Memory, Guests: without.Guests, Pending: 1}, false)
		for _, step := range bareSteps() {
			checkSameBare(t, step.call(with), step.call(without), true)
		}
	}
	checkSameBare(t, impl.Bare{Memory: [][]int{nil}}, impl.Bare{}, false)
	checkSameBare(t, impl.Bare{Guests: []impl.Guest{{}}}, impl.Bare{}, false)
	checkSameBare(t, impl.Bare{Outs: []int{0}}, impl.Bare{}, false)
}

func TestSameBareModifiesNothing(t *testing.T) {
	for _, b := range someBares() {
		given, other := bareWithSpare(b, 3), bareWithSpare(b, 5)
		kept, otherKept := keepsBare(given), keepsBare(other)
		impl.SameBare(given, other)
		impl.SameBare(given, fullBare())
		impl.SameBare(fullBare(), other)
		if !kept() || !otherKept() {
			t.Errorf("SameBare modified %+v", b)
		}
	}
}

// TestBaresKeepNoState repeats calls, also after others with different arguments.
func TestBaresKeepNoState(t *testing.T) {
	all, steps := someBares(), bareSteps()
	for range 2 {
		for i, b := range all {
			for _, x := range []impl.Bare{b, all[len(all)-1-i], b, b} {
				checkSameBare(t, x, b, equalBares(x, b))
				if got, want := impl.BareOk(x), wantBareOk(x); got != want {
					t.Errorf("BareOk(%+v) = %v; want %v", x, got, want)
				}
				for _, step := range steps {
					checkBareResult(t, step, x)
				}
				for g := -1; g < 3; g++ {
					got, ok := impl.GuestAt(x, g)
					if want, wantOk := wantGuestAt(x, g); !equalGuests(got, want) || ok != wantOk {
						t.Errorf("GuestAt(%+v, %d) = %+v, %v; want %+v, %v", x, g, got, ok, want, wantOk)
					}
				}
				if got := impl.BareNew([][]impl.Ins{progOfLength(i % 14)}); !equalBares(got, wantBareNew([][]impl.Ins{progOfLength(i % 14)})) {
					t.Errorf("BareNew of %d instructions = %+v", i%14, got)
				}
			}
		}
	}
}
