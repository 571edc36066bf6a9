package tests

import (
	"math"
	"slices"
	"testing"

	"loop.example/g00975/impl"
)

// operations are the operations as chapter 10 lists them: the number, the name, the largest X, and the rights that it needs.
var operations = []struct {
	op   int
	name string
	most int
	need int
}{
	{1, "set", 99, 0}, {2, "add", 99, 0}, {3, "load", 15, 1}, {4, "store", 15, 2}, {5, "out", 99, 0}, {6, "call", 99, 0}, {7, "halt", 0, 0}, {8, "jump", 11, 0},
}

// wantInsOk tells whether an instruction is valid, without the help of the program.
func wantInsOk(i impl.Ins) bool {
	for _, o := range operations {
		if o.op == i.Op {
			return 0 <= i.X && i.X <= o.most
		}
	}
	return false
}

func wantOpName(op int) string {
	for _, o := range operations {
		if o.op == op {
			return o.name
		}
	}
	return "?"
}

// wantTouches returns the page and the rights of an instruction, valid or not, without the help of the program.
func wantTouches(i impl.Ins) (page, need int) {
	for _, o := range operations {
		if o.op != i.Op || o.need == 0 {
			continue
		}
		if i.X < 0 {
			return -1, o.need
		}
		return (i.X - i.X%4) / 4, o.need
	}
	return -1, 0
}

func wantProgOk(p []impl.Ins) bool {
	invalid := func(i impl.Ins) bool { return !wantInsOk(i) }
	return 1 <= len(p) && len(p) <= 12 && !slices.ContainsFunc(p, invalid)
}

// progOfLength returns a program of valid instructions. Up to a length of 14, all of them differ.
func progOfLength(n int) []impl.Ins {
	p := make([]impl.Ins, n)
	for i := range p {
		o := operations[i%len(operations)]
		p[i] = impl.Ins{Op: o.op, X: i / len(operations) % (o.most + 1)}
	}
	return p
}

// validInstructions returns every instruction that is valid.
func validInstructions() []impl.Ins {
	var all []impl.Ins
	for _, o := range operations {
		for x := 0; x <= o.most; x++ {
			all = append(all, impl.Ins{Op: o.op, X: x})
		}
	}
	return all
}

// invalidInstructions returns instructions that are not valid, for different reasons.
func invalidInstructions() []impl.Ins {
	var all []impl.Ins
	for _, o := range operations {
		for _, x := range []int{-1, -2, math.MinInt, math.MinInt + 1, o.most + 1, o.most + 2, 1 << 32, 1<<32 + 1, math.MaxInt} {
			all = append(all, impl.Ins{Op: o.op, X: x})
		}
	}
	for _, op := range []int{0, -1, -3, -8, 9, 10, 1<<32 + 1, math.MinInt, math.MaxInt} {
		all = append(all, impl.Ins{Op: op}, impl.Ins{Op: op, X: 1}, impl.Ins{Op: op, X: -1})
	}
	return all
}

// withIns returns a copy of p with i at index pc.
func withIns(p []impl.Ins, pc int, i impl.Ins) []impl.Ins {
	changed := slices.Clone(p)
	changed[pc] = i
	return changed
}

// progWithSpare returns p in front of instructions that would be noticed, and all of them.
func progWithSpare(p []impl.Ins, behind ...impl.Ins) (front, whole []impl.Ins) {
	whole = append(slices.Clone(p), behind...)
	return whole[:len(p)], whole
}

func checkProgOk(t *testing.T, p []impl.Ins) {
	t.Helper()
	if got, want := impl.ProgOk(p), wantProgOk(p); got != want {
		t.Errorf("ProgOk(%v) of %d instructions = %v; want %v", p, len(p), got, want)
	}
}

// checkInsAt asks for the instruction at pc of a program, and of the same program in front of other instructions.
func checkInsAt(t *testing.T, p []impl.Ins, pc int) {
	t.Helper()
	want := impl.Ins{Op: 7}
	if !missing(len(p), pc) {
		want = p[pc]
	}
	front, _ := progWithSpare(p, impl.Ins{Op: 4, X: 9}, impl.Ins{Op: 1, X: 98}, impl.Ins{Op: 5, X: 97})
	for name, prog := range map[string][]impl.Ins{"a program": p, "the front of a program": front} {
		if got := impl.InsAt(prog, pc); got != want {
			t.Errorf("InsAt of %s of %d instructions at %d = %v; want %v", name, len(p), pc, got, want)
		}
	}
}

// checkSame compares two programs in both orders.
func checkSame(t *testing.T, a, b []impl.Ins, want bool) {
	t.Helper()
	if got := impl.SameProg(a, b); got != want {
		t.Errorf("SameProg(%v, %v) = %v; want %v", a, b, got, want)
	}
	if got := impl.SameProg(b, a); got != want {
		t.Errorf("SameProg(%v, %v) = %v; want %v", b, a, got, want)
	}
}

func TestCodeNumbers(t *testing.T) {
	ops := []int{impl.OpSet, impl.OpAdd, impl.OpLoad, impl.OpStore, impl.OpOut, impl.OpCall, impl.OpHalt, impl.OpJump}
	if !slices.Equal(ops, []int{1, 2, 3, 4, 5, 6, 7, 8}) {
		t.Error("the operations are numbered", ops)
	}
	if impl.MaxProg != 12 || impl.MaxAddr != 15 {
		t.Errorf("MaxProg = %d, MaxAddr = %d; want 12 and 15", impl.MaxProg, impl.MaxAddr)
	}
}

func TestInsOk(t *testing.T) {
	for _, op := range numbersAround(30) {
		for _, x := range numbersAround(120) {
			i := impl.Ins{Op: op, X: x}
			if got, want := impl.InsOk(i), wantInsOk(i); got != want {
				t.Errorf("InsOk(%v) = %v; want %v", i, got, want)
			}
		}
	}
}

func TestInsOkBounds(t *testing.T) {
	for _, o := range operations {
		for _, c := range []struct {
			x  int
			ok bool
		}{{0, true}, {o.most, true}, {-1, false}, {o.most + 1, false}, {math.MinInt, false}, {math.MaxInt, false}} {
			if got := impl.InsOk(impl.Ins{Op: o.op, X: c.x}); got != c.ok {
				t.Errorf("InsOk of %s %d = %v; want %v", o.name, c.x, got, c.ok)
			}
		}
	}
	for _, op := range []int{0, -1, -2, -3, -4, -5, -6, -7, -8, 9, 10, 16, 100, 1<<8 + 1, 1<<32 + 3, math.MinInt, math.MaxInt} {
		for _, x := range []int{0, 1, -1, 11, 12, 15, 16, 99, 100, math.MinInt, math.MaxInt} {
			if impl.InsOk(impl.Ins{Op: op, X: x}) {
				t.Errorf("InsOk of operation %d, which is none, and X %d = true", op, x)
			}
		}
	}
	if impl.InsOk(impl.Ins{}) {
		t.Error("the zero instruction is valid")
	}
}

func TestProgOkLengths(t *testing.T) {
	for name, p := range map[string][]impl.Ins{"nil": nil, "empty": {}, "empty with a capacity": make([]impl.Ins, 0, 5), "empty in front of instructions": progOfLength(5)[:0]} {
		if impl.ProgOk(p) {
			t.Errorf("ProgOk of a program that is %s = true", name)
		}
	}
	for n := 1; n <= 12; n++ {
		if !impl.ProgOk(progOfLength(n)) {
			t.Errorf("ProgOk of %d valid instructions = false", n)
		}
	}
	for _, n := range []int{13, 14, 15, 16, 24, 25, 99, 100, 256, 257, 1000, 1 << 16, 1<<16 + 1} {
		if impl.ProgOk(progOfLength(n)) {
			t.Errorf("ProgOk of %d instructions = true", n)
		}
	}
}

func TestProgOkOfEachInstruction(t *testing.T) {
	for n := 1; n <= 14; n++ {
		for _, i := range validInstructions() {
			checkProgOk(t, slices.Repeat([]impl.Ins{i}, n))
			checkProgOk(t, withIns(progOfLength(n), n/2, i))
		}
	}
}

// TestProgOkWithOneInvalidInstruction puts it at each index, so that none is left out.
func TestProgOkWithOneInvalidInstruction(t *testing.T) {
	for n := 1; n <= 14; n++ {
		for pc := range n {
			for _, i := range invalidInstructions() {
				if p := withIns(progOfLength(n), pc, i); impl.ProgOk(p) {
					t.Errorf("ProgOk with %v at %d of %d instructions = true", i, pc, n)
				}
			}
		}
	}
	for n := 1; n <= 14; n++ {
		for _, i := range invalidInstructions() {
			checkProgOk(t, slices.Repeat([]impl.Ins{i}, n))
		}
	}
}

// TestProgOkEndsWithTheProgram gives programs in front of other instructions, which are no part of them.
func TestProgOkEndsWithTheProgram(t *testing.T) {
	for n := range 13 {
		p := progOfLength(n)
		for _, behind := range [][]impl.Ins{{{Op: 9}}, {{}, {}}, {{Op: 3, X: 16}}, progOfLength(3), progOfLength(13)} {
			front, whole := progWithSpare(p, behind...)
			if got := impl.ProgOk(front); got != (n > 0) {
				t.Errorf("ProgOk of %d instructions in front of %v = %v", n, behind, got)
			}
			if want := append(slices.Clone(p), behind...); !slices.Equal(whole, want) {
				t.Errorf("ProgOk modified the instructions %v: %v", want, whole)
			}
		}
	}
}

func TestInsAt(t *testing.T) {
	for _, n := range []int{0, 1, 2, 3, 11, 12, 13, 14, 24, 100} {
		p := progOfLength(n)
		for _, pc := range numbersAround(120) {
			checkInsAt(t, p, pc)
		}
		for _, pc := range indexesOutside(n) {
			checkInsAt(t, p, pc)
		}
	}
}

func TestInsAtBehindTheProgram(t *testing.T) {
	halt := impl.Ins{Op: impl.OpHalt, X: 0}
	for n := range 14 {
		p := slices.Repeat([]impl.Ins{{Op: impl.OpStore, X: 9}}, n)
		for _, pc := range []int{n, n + 1, n + 2, 2*n + 2, 12 + n, 1000, 1<<32 + n, math.MaxInt - 1, math.MaxInt, -1, -2, -n - 1, -1 << 32, math.MinInt + 1, math.MinInt} {
			if got := impl.InsAt(p, pc); got != halt {
				t.Errorf("InsAt of %d instructions at %d = %v; want %v", n, pc, got, halt)
			}
		}
	}
	for name, p := range map[string][]impl.Ins{"nil": nil, "empty": {}, "empty in front of instructions": progOfLength(12)[:0]} {
		for _, pc := range numbersAround(20) {
			if got := impl.InsAt(p, pc); got != halt {
				t.Errorf("InsAt of a program that is %s at %d = %v; want %v", name, pc, got, halt)
			}
		}
	}
}

// TestInsAtOfInvalidPrograms expects the instruction as it is: InsAt does not check it.
func TestInsAtOfInvalidPrograms(t *testing.T) {
	all := append(invalidInstructions(), impl.Ins{}, impl.Ins{Op: 7, X: 5})
	for pc, i := range all {
		checkInsAt(t, all, pc)
		checkInsAt(t, []impl.Ins{i}, 0)
		checkInsAt(t, []impl.Ins{i}, 1)
		checkInsAt(t, []impl.Ins{i}, -1)
	}
}

func TestOpName(t *testing.T) {
	names := []string{"?", "set", "add", "load", "store", "out", "call", "halt", "jump", "?"}
	for op, want := range names {
		if got := impl.OpName(op); got != want {
			t.Errorf("OpName(%d) = %q; want %q", op, got, want)
		}
	}
	for _, op := range numbersAround(1000) {
		if got, want := impl.OpName(op), wantOpName(op); got != want {
			t.Errorf("OpName(%d) = %q; want %q", op, got, want)
		}
	}
}

func TestTouches(t *testing.T) {
	for _, op := range numbersAround(30) {
		for _, x := range numbersAround(120) {
			i := impl.Ins{Op: op, X: x}
			page, need := impl.Touches(i)
			if wantPage, wantNeed := wantTouches(i); page != wantPage || need != wantNeed {
				t.Errorf("Touches(%v) = %d, %d; want %d, %d", i, page, need, wantPage, wantNeed)
			}
		}
	}
}

func TestTouchesOfLoadsAndStores(t *testing.T) {
	pages := []int{0, 0, 0, 0, 1, 1, 1, 1, 2, 2, 2, 2, 3, 3, 3, 3}
	for x, want := range pages {
		if page, need := impl.Touches(impl.Ins{Op: impl.OpLoad, X: x}); page != want || need != impl.RtRead {
			t.Errorf("Touches of load %d = %d, %d; want %d, %d", x, page, need, want, impl.RtRead)
		}
		if page, need := impl.Touches(impl.Ins{Op: impl.OpStore, X: x}); page != want || need != impl.RtWrite {
			t.Errorf("Touches of store %d = %d, %d; want %d, %d", x, page, need, want, impl.RtWrite)
		}
	}
}

// TestTouchesOfInvalidInstructions expects the page of the address, also where no guest has it, and the rights of the operation.
func TestTouchesOfInvalidInstructions(t *testing.T) {
	for _, c := range []struct{ op, x, page, need int }{
		{3, -1, -1, 1}, {4, -1, -1, 2}, {3, -4, -1, 1}, {4, -5, -1, 2}, {3, math.MinInt, -1, 1}, {4, math.MinInt, -1, 2},
		{3, 16, 4, 1}, {4, 16, 4, 2}, {3, 19, 4, 1}, {4, 20, 5, 2}, {3, 1 << 32, 1 << 30, 1}, {3, math.MaxInt, 2305843009213693951, 1}, {4, math.MaxInt, 2305843009213693951, 2},
		{0, 0, -1, 0}, {0, 9, -1, 0}, {9, 9, -1, 0}, {-3, 9, -1, 0}, {-4, 9, -1, 0}, {1<<32 + 3, 9, -1, 0}, {math.MinInt, 9, -1, 0}, {math.MaxInt, 9, -1, 0},
		{1, 100, -1, 0}, {2, -1, -1, 0}, {5, math.MaxInt, -1, 0}, {6, math.MinInt, -1, 0}, {7, 9, -1, 0}, {7, -1, -1, 0}, {8, 12, -1, 0},
	} {
		if page, need := impl.Touches(impl.Ins{Op: c.op, X: c.x}); page != c.page || need != c.need {
			t.Errorf("Touches of operation %d with X %d = %d, %d; want %d, %d", c.op, c.x, page, need, c.page, c.need)
		}
	}
}

// TestValidInstructionsStayInTheirGuest is the promise itself: an instruction that InsOk accepts accesses a page that every guest has, or none.
func TestValidInstructionsStayInTheirGuest(t *testing.T) {
	table := identityTable(impl.GuestPages)
	accesses := map[impl.Ins]bool{}
	for _, op := range numbersAround(40) {
		for _, x := range numbersAround(130) {
			i := impl.Ins{Op: op, X: x}
			if !impl.InsOk(i) {
				continue
			}
			page, need := impl.Touches(i)
			if page == -1 && need == 0 {
				continue
			}
			if missing(len(table), page) {
				t.Fatalf("%v is valid, but accesses page %d of a guest with %d pages", i, page, len(table))
			}
			if host, ok := impl.WalkInner(table, page, need); !ok || host != page {
				t.Errorf("%v is valid, but needs %d of page %d, which a table with all rights does not grant", i, need, page)
			}
			accesses[i] = true
		}
	}
	if want := 2 * impl.GuestPages * impl.PageCells; len(accesses) != want {
		t.Errorf("%d valid instructions access a page; want %d, to load and to store each cell", len(accesses), want)
	}
}

// TestValidProgramsStayInTheirGuest takes the instruction at every program counter, also behind the last one.
func TestValidProgramsStayInTheirGuest(t *testing.T) {
	for _, first := range validInstructions() {
		p := withIns(progOfLength(12), 0, first)
		if !impl.ProgOk(p) {
			t.Fatalf("ProgOk(%v) = false", p)
		}
		for _, pc := range numbersAround(15) {
			i := impl.InsAt(p, pc)
			if !impl.InsOk(i) {
				t.Errorf("InsAt(%v, %d) = %v, which is not valid", p, pc, i)
			}
			if page, need := impl.Touches(i); page < -1 || page >= impl.GuestPages || (page == -1) != (need == 0) {
				t.Errorf("Touches of %v at %d = %d, %d", i, pc, page, need)
			}
		}
	}
}

func TestSameProgOfEqualPrograms(t *testing.T) {
	for _, n := range []int{0, 1, 2, 5, 11, 12, 13, 100} {
		p := progOfLength(n)
		checkSame(t, p, p, true)
		checkSame(t, p, slices.Clone(p), true)
		front, _ := progWithSpare(p, impl.Ins{Op: 4, X: 9})
		other, _ := progWithSpare(p, impl.Ins{Op: 9, X: -1}, impl.Ins{})
		checkSame(t, p, front, true)
		checkSame(t, front, other, true)
	}
	invalid := invalidInstructions()
	checkSame(t, invalid, slices.Clone(invalid), true)
}

func TestSameProgOfEmptyPrograms(t *testing.T) {
	empty := [][]impl.Ins{nil, {}, make([]impl.Ins, 0, 4), progOfLength(4)[:0], progOfLength(4)[4:]}
	for _, a := range empty {
		for _, b := range empty {
			checkSame(t, a, b, true)
		}
		for _, n := range []int{1, 2, 12, 13} {
			checkSame(t, a, progOfLength(n), false)
			checkSame(t, a, make([]impl.Ins, n), false)
			checkSame(t, a, slices.Repeat([]impl.Ins{{Op: 7}}, n), false)
		}
	}
}

// TestSameProgOfOneChange changes one field of one instruction at every index.
func TestSameProgOfOneChange(t *testing.T) {
	for n := 1; n <= 14; n++ {
		for _, p := range [][]impl.Ins{progOfLength(n), make([]impl.Ins, n), slices.Repeat([]impl.Ins{{Op: 4, X: 9}}, n)} {
			for pc, i := range p {
				for _, d := range []int{1, -1, 2, 8, 256, 1 << 32, math.MinInt, math.MaxInt} {
					checkSame(t, p, withIns(p, pc, impl.Ins{Op: i.Op + d, X: i.X}), false)
					checkSame(t, p, withIns(p, pc, impl.Ins{Op: i.Op, X: i.X + d}), false)
					checkSame(t, p, withIns(p, pc, impl.Ins{Op: i.Op + d, X: i.X - d}), false)
				}
				if i.Op != i.X {
					checkSame(t, p, withIns(p, pc, impl.Ins{Op: i.X, X: i.Op}), false)
				}
			}
		}
	}
}

// TestSameProgOfBeginnings compares programs with their beginnings, also where only halts follow, which InsAt would return too.
func TestSameProgOfBeginnings(t *testing.T) {
	for n := range 15 {
		for _, p := range [][]impl.Ins{progOfLength(n), make([]impl.Ins, n), slices.Repeat([]impl.Ins{{Op: 7}}, n)} {
			for length := range n {
				checkSame(t, p, p[:length], false)
				checkSame(t, p, slices.Clone(p[:length]), false)
				checkSame(t, p, p[n-length:], false)
			}
		}
	}
}

// TestSameProgOfOtherOrders compares programs with the same instructions at other indexes.
func TestSameProgOfOtherOrders(t *testing.T) {
	for n := 2; n <= 12; n++ {
		p := progOfLength(n)
		for i := range n {
			for j := range i {
				swapped := slices.Clone(p)
				swapped[i], swapped[j] = p[j], p[i]
				checkSame(t, p, swapped, false)
			}
		}
		reversed := slices.Clone(p)
		slices.Reverse(reversed)
		checkSame(t, p, reversed, false)
	}
}

// TestCodeModifiesNothing calls every function that takes a program, and looks at all of its memory.
func TestCodeModifiesNothing(t *testing.T) {
	for n := range 15 {
		for _, p := range [][]impl.Ins{progOfLength(n), invalidInstructions()[:n]} {
			a, wholeA := progWithSpare(p, impl.Ins{Op: 4, X: 9}, impl.Ins{Op: 9, X: -1}, impl.Ins{})
			b, wholeB := progWithSpare(p, impl.Ins{Op: 5, X: 50}, impl.Ins{}, impl.Ins{Op: 7})
			wantA, wantB := slices.Clone(wholeA), slices.Clone(wholeB)
			impl.ProgOk(a)
			impl.SameProg(a, b)
			impl.SameProg(b, a)
			impl.SameProg(a, a)
			for _, pc := range indexesOutside(n) {
				impl.InsAt(a, pc)
			}
			for pc := range n {
				i := impl.InsAt(a, pc)
				i.Op, i.X = -77, -77
				impl.SameProg(a, b[:pc])
				impl.ProgOk(a[pc:])
			}
			if !slices.Equal(wholeA, wantA) || !slices.Equal(wholeB, wantB) {
				t.Errorf("programs of %d instructions were modified: %v and %v; want %v and %v", n, wholeA, wholeB, wantA, wantB)
			}
		}
	}
}

// TestCodeKeepsNoState repeats calls after others with different arguments.
func TestCodeKeepsNoState(t *testing.T) {
	p := progOfLength(12)
	for range 3 {
		for _, i := range append(validInstructions(), invalidInstructions()...) {
			q := withIns(p, 3, i)
			checkProgOk(t, q)
			checkSame(t, p, q, i == p[3])
			checkInsAt(t, q, 3)
			if got, want := impl.OpName(i.Op), wantOpName(i.Op); got != want {
				t.Errorf("OpName(%d) = %q; want %q", i.Op, got, want)
			}
		}
		checkProgOk(t, p)
		checkSame(t, p, slices.Clone(p), true)
	}
}
