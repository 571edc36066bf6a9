package tests

import (
	"fmt"
	"math"
	"slices"
	"testing"

	"loop.example/g00975/impl"
)

// exitKinds are the kinds of exits as chapter 13 lists them: the number, the name, the largest Page, whether Write may be set, and the largest N. A field that the kind does not use has no value but zero.
var exitKinds = []struct {
	kind     int
	name     string
	mostPage int
	writes   bool
	mostN    int
}{
	{0, "none", 0, false, 0}, {1, "fault", 3, true, 0}, {2, "call", 0, false, 99}, {3, "out", 0, false, 99}, {4, "halt", 0, false, 0},
}

// fewKinds are the five kinds, numbers around them, and the extremes.
var fewKinds = []int{
	-256, -5, -4, -3, -2, -1, 0, 1, 2, 3, 4, 5, 6, 7, 8, 255, 256, 257,
	1 << 32, 1<<32 + 1, 1<<32 + 2, 1<<32 + 4, 1 << 62, -1 << 32, 1 - 1<<32,
	math.MinInt, math.MinInt + 1, math.MinInt + 3, math.MaxInt, math.MaxInt - 1,
}

// farNumbers are in no range of a field; some of them have low bits that would be.
var farNumbers = []int{
	-1, -2, -3, -4, -99, -256, 100, 101, 256, 257, 1 << 32, 1<<32 + 1, 1<<32 + 3, 1 << 62, -1 << 32, 3 - 1<<32,
	math.MinInt, math.MinInt + 1, math.MinInt + 2, math.MinInt + 3, math.MaxInt, math.MaxInt - 1,
}

// wantExitOk tells whether an exit is valid, without the help of the program.
func wantExitOk(e impl.Exit) bool {
	for _, k := range exitKinds {
		if k.kind == e.Kind {
			return 0 <= e.Page && e.Page <= k.mostPage && (k.writes || !e.Write) && 0 <= e.N && e.N <= k.mostN
		}
	}
	return false
}

func wantExitName(kind int) string {
	for _, k := range exitKinds {
		if k.kind == kind {
			return k.name
		}
	}
	return "?"
}

// wantExitText returns the text of an exit, valid or not, without the help of the program.
func wantExitText(e impl.Exit) string {
	switch {
	case e.Kind == 1 && e.Write:
		return fmt.Sprintf("fault %d w", e.Page)
	case e.Kind == 1:
		return fmt.Sprintf("fault %d r", e.Page)
	case e.Kind == 2:
		return fmt.Sprintf("call %d", e.N)
	case e.Kind == 3:
		return fmt.Sprintf("out %d", e.N)
	}
	return wantExitName(e.Kind)
}

// exitsWith returns the exits with each of these kinds, pages and numbers, with and without Write.
func exitsWith(kinds, pages, numbers []int) []impl.Exit {
	var all []impl.Exit
	for _, kind := range kinds {
		for _, page := range pages {
			for _, n := range numbers {
				all = append(all, impl.Exit{Kind: kind, Page: page, N: n}, impl.Exit{Kind: kind, Page: page, Write: true, N: n})
			}
		}
	}
	return all
}

// someExits returns exits of every kind and of kinds that are none, with each field zero, in its range, at both ends of it and outside.
func someExits() []impl.Exit {
	pages := []int{math.MinInt, -4, -1, 0, 1, 2, 3, 4, 99, 1 << 32, math.MaxInt}
	numbers := []int{math.MinInt, -99, -1, 0, 1, 7, 98, 99, 100, 1<<32 + 1, math.MaxInt}
	return exitsWith(fewKinds, pages, numbers)
}

// validExits returns every exit that is valid, each once.
func validExits() []impl.Exit {
	all := []impl.Exit{{Kind: 0}, {Kind: 4}}
	for page := range 4 {
		all = append(all, impl.Exit{Kind: 1, Page: page}, impl.Exit{Kind: 1, Page: page, Write: true})
	}
	for n := range 100 {
		all = append(all, impl.Exit{Kind: 2, N: n}, impl.Exit{Kind: 3, N: n})
	}
	return all
}

func checkExitOk(t *testing.T, e impl.Exit) {
	t.Helper()
	if got, want := impl.ExitOk(e), wantExitOk(e); got != want {
		t.Errorf("ExitOk(%+v) = %v; want %v", e, got, want)
	}
}

func checkExitName(t *testing.T, kind int) {
	t.Helper()
	if got, want := impl.ExitName(kind), wantExitName(kind); got != want {
		t.Errorf("ExitName(%d) = %q; want %q", kind, got, want)
	}
}

func checkExitText(t *testing.T, e impl.Exit) {
	t.Helper()
	if got, want := impl.ExitText(e), wantExitText(e); got != want {
		t.Errorf("ExitText(%+v) = %q; want %q", e, got, want)
	}
}

// checkMadeExit checks a new exit as a whole, so that the fields that its kind does not use are zero, and whether it is valid.
func checkMadeExit(t *testing.T, name string, got, want impl.Exit) {
	t.Helper()
	if got != want {
		t.Errorf("%s made %+v; want %+v", name, got, want)
	}
	if ok := impl.ExitOk(got); ok != wantExitOk(want) {
		t.Errorf("ExitOk(%+v), which %s made, = %v; want %v", got, name, ok, wantExitOk(want))
	}
}

func TestExitNumbers(t *testing.T) {
	if kinds := []int{impl.ExNone, impl.ExFault, impl.ExCall, impl.ExOut, impl.ExHalt}; !slices.Equal(kinds, []int{0, 1, 2, 3, 4}) {
		t.Error("the kinds are numbered", kinds)
	}
}

// TestExitOkOfEveryKind takes every kind with each field zero and with each not zero.
func TestExitOkOfEveryKind(t *testing.T) {
	for _, e := range someExits() {
		checkExitOk(t, e)
	}
	for _, e := range exitsWith(numbersAround(20), []int{0, 1, -1, 3, 4}, []int{0, 1, -1, 99, 100}) {
		checkExitOk(t, e)
	}
}

// TestExitOkOfZeroFields has a kind and nothing else.
func TestExitOkOfZeroFields(t *testing.T) {
	for _, kind := range numbersAround(300) {
		e := impl.Exit{Kind: kind}
		if got, want := impl.ExitOk(e), kind >= 0 && kind <= 4; got != want {
			t.Errorf("ExitOk(%+v) = %v; want %v", e, got, want)
		}
	}
}

// TestExitOkOfUnusedFields sets each field of every valid exit that its kind does not use: alone, and together with the others. Zeros in the same fields are accepted.
func TestExitOkOfUnusedFields(t *testing.T) {
	notZero := append([]int{1, 2, 3, 4, 98, 99}, farNumbers...)
	for _, e := range validExits() {
		if !impl.ExitOk(e) {
			t.Errorf("ExitOk(%+v) = false; all of its unused fields are zero", e)
		}
		for _, x := range notZero {
			var spoilt []impl.Exit
			page, write, n := e, e, e
			page.Page, write.Write, n.N = x, true, x
			switch e.Kind {
			case impl.ExFault:
				spoilt = []impl.Exit{n}
			case impl.ExCall, impl.ExOut:
				both := page
				both.Write = true
				spoilt = []impl.Exit{page, write, both}
			default:
				spoilt = []impl.Exit{page, write, n, {Kind: e.Kind, Page: x, Write: true}, {Kind: e.Kind, Page: x, N: x}, {Kind: e.Kind, Page: x, N: -x}, {Kind: e.Kind, Write: true, N: x}, {Kind: e.Kind, Page: x, Write: true, N: x}}
			}
			for _, s := range spoilt {
				if impl.ExitOk(s) {
					t.Errorf("ExitOk(%+v) = true, but a field that the kind does not use is set", s)
				}
			}
		}
	}
}

// TestExitOkOfPages takes every Page around its range for all kinds: only a fault uses it.
func TestExitOkOfPages(t *testing.T) {
	for _, page := range numbersAround(300) {
		for _, write := range []bool{true, false} {
			e := impl.Exit{Kind: impl.ExFault, Page: page, Write: write}
			if got, want := impl.ExitOk(e), page == 0 || page == 1 || page == 2 || page == 3; got != want {
				t.Errorf("ExitOk(%+v) = %v; want %v", e, got, want)
			}
			for _, kind := range []int{impl.ExNone, impl.ExCall, impl.ExOut, impl.ExHalt} {
				e.Kind = kind
				if got, want := impl.ExitOk(e), page == 0 && !write; got != want {
					t.Errorf("ExitOk(%+v) = %v; want %v", e, got, want)
				}
			}
		}
	}
}

// TestExitOkOfNumbers takes every N around its range for all kinds: only calls and outputs use it.
func TestExitOkOfNumbers(t *testing.T) {
	for _, n := range numbersAround(300) {
		for _, kind := range []int{impl.ExCall, impl.ExOut} {
			e := impl.Exit{Kind: kind, N: n}
			if got, want := impl.ExitOk(e), n >= 0 && n <= impl.MaxCell; got != want {
				t.Errorf("ExitOk(%+v) = %v; want %v", e, got, want)
			}
		}
		for _, kind := range []int{impl.ExNone, impl.ExFault, impl.ExHalt} {
			e := impl.Exit{Kind: kind, N: n}
			if got, want := impl.ExitOk(e), n == 0; got != want {
				t.Errorf("ExitOk(%+v) = %v; want %v", e, got, want)
			}
		}
	}
}

func TestExitOkBounds(t *testing.T) {
	for _, c := range []struct {
		e    impl.Exit
		want bool
	}{
		{impl.Exit{}, true},
		{impl.Exit{Kind: impl.ExHalt}, true},
		{impl.Exit{Kind: -1}, false}, {impl.Exit{Kind: 5}, false},
		{impl.Exit{Kind: math.MinInt}, false}, {impl.Exit{Kind: math.MaxInt}, false},
		{impl.Exit{Kind: -1, Page: 1, Write: true, N: 1}, false}, {impl.Exit{Kind: 5, Page: 3, Write: true, N: 99}, false},
		{impl.Exit{Kind: impl.ExFault}, true}, {impl.Exit{Kind: impl.ExFault, Write: true}, true},
		{impl.Exit{Kind: impl.ExFault, Page: 3}, true}, {impl.Exit{Kind: impl.ExFault, Page: 3, Write: true}, true},
		{impl.Exit{Kind: impl.ExFault, Page: 4}, false}, {impl.Exit{Kind: impl.ExFault, Page: -1, Write: true}, false},
		{impl.Exit{Kind: impl.ExFault, Page: math.MinInt}, false}, {impl.Exit{Kind: impl.ExFault, Page: math.MaxInt, Write: true}, false},
		{impl.Exit{Kind: impl.ExFault, Page: 2, N: 1}, false}, {impl.Exit{Kind: impl.ExFault, Page: 2, Write: true, N: -1}, false},
		{impl.Exit{Kind: impl.ExCall}, true}, {impl.Exit{Kind: impl.ExOut}, true},
		{impl.Exit{Kind: impl.ExCall, N: 99}, true}, {impl.Exit{Kind: impl.ExOut, N: 99}, true},
		{impl.Exit{Kind: impl.ExCall, N: 100}, false}, {impl.Exit{Kind: impl.ExOut, N: 100}, false},
		{impl.Exit{Kind: impl.ExCall, N: -1}, false}, {impl.Exit{Kind: impl.ExOut, N: -1}, false},
		{impl.Exit{Kind: impl.ExCall, N: math.MinInt}, false}, {impl.Exit{Kind: impl.ExOut, N: math.MaxInt}, false},
		{impl.Exit{Kind: impl.ExCall, N: 7, Page: 1}, false}, {impl.Exit{Kind: impl.ExOut, N: 7, Page: -1}, false},
		{impl.Exit{Kind: impl.ExCall, N: 7, Write: true}, false}, {impl.Exit{Kind: impl.ExOut, N: 7, Write: true}, false},
		{impl.Exit{Page: 1}, false}, {impl.Exit{Write: true}, false}, {impl.Exit{N: 1}, false},
		{impl.Exit{Kind: impl.ExHalt, Page: 1}, false}, {impl.Exit{Kind: impl.ExHalt, Write: true}, false}, {impl.Exit{Kind: impl.ExHalt, N: 1}, false},
	} {
		if got := impl.ExitOk(c.e); got != c.want {
			t.Errorf("ExitOk(%+v) = %v; want %v", c.e, got, c.want)
		}
	}
}

// TestExitIsValidWithinRanges is the promise itself: of all exits around the ranges, those that are valid and no others.
func TestExitIsValidWithinRanges(t *testing.T) {
	valid := map[impl.Exit]bool{}
	for _, e := range validExits() {
		valid[e] = true
	}
	var numbers []int
	for n := -3; n <= 103; n++ {
		numbers = append(numbers, n)
	}
	found := 0
	for _, e := range exitsWith([]int{-2, -1, 0, 1, 2, 3, 4, 5, 6}, []int{-2, -1, 0, 1, 2, 3, 4, 5}, numbers) {
		if got := impl.ExitOk(e); got != valid[e] {
			t.Errorf("ExitOk(%+v) = %v; want %v", e, got, valid[e])
		} else if got {
			found++
		}
	}
	if found != 210 || len(valid) != 210 {
		t.Errorf("%d of %d valid exits found; want all 210", found, len(valid))
	}
}

func TestFaultExit(t *testing.T) {
	for _, page := range numbersAround(300) {
		for _, write := range []bool{true, false} {
			checkMadeExit(t, "FaultExit", impl.FaultExit(page, write), impl.Exit{Kind: 1, Page: page, Write: write})
		}
	}
}

func TestCallExit(t *testing.T) {
	for _, n := range numbersAround(300) {
		checkMadeExit(t, "CallExit", impl.CallExit(n), impl.Exit{Kind: 2, N: n})
	}
}

func TestOutExit(t *testing.T) {
	for _, n := range numbersAround(300) {
		checkMadeExit(t, "OutExit", impl.OutExit(n), impl.Exit{Kind: 3, N: n})
	}
}

// TestMadeExitBounds has arguments at both ends of their ranges and beyond, which are kept as they are.
func TestMadeExitBounds(t *testing.T) {
	for _, c := range []struct {
		got, want impl.Exit
		ok        bool
	}{
		{impl.FaultExit(0, false), impl.Exit{Kind: 1}, true},
		{impl.FaultExit(3, true), impl.Exit{Kind: 1, Page: 3, Write: true}, true},
		{impl.FaultExit(-1, true), impl.Exit{Kind: 1, Page: -1, Write: true}, false},
		{impl.FaultExit(4, false), impl.Exit{Kind: 1, Page: 4}, false},
		{impl.FaultExit(math.MinInt, false), impl.Exit{Kind: 1, Page: math.MinInt}, false},
		{impl.FaultExit(math.MaxInt, true), impl.Exit{Kind: 1, Page: math.MaxInt, Write: true}, false},
		{impl.CallExit(0), impl.Exit{Kind: 2}, true},
		{impl.CallExit(99), impl.Exit{Kind: 2, N: 99}, true},
		{impl.CallExit(-1), impl.Exit{Kind: 2, N: -1}, false},
		{impl.CallExit(100), impl.Exit{Kind: 2, N: 100}, false},
		{impl.CallExit(math.MinInt), impl.Exit{Kind: 2, N: math.MinInt}, false},
		{impl.CallExit(math.MaxInt), impl.Exit{Kind: 2, N: math.MaxInt}, false},
		{impl.OutExit(0), impl.Exit{Kind: 3}, true},
		{impl.OutExit(99), impl.Exit{Kind: 3, N: 99}, true},
		{impl.OutExit(-1), impl.Exit{Kind: 3, N: -1}, false},
		{impl.OutExit(100), impl.Exit{Kind: 3, N: 100}, false},
		{impl.OutExit(math.MinInt), impl.Exit{Kind: 3, N: math.MinInt}, false},
		{impl.OutExit(math.MaxInt), impl.Exit{Kind: 3, N: math.MaxInt}, false},
	} {
		if got := impl.ExitOk(c.got); c.got != c.want || got != c.ok {
			t.Errorf("made %+v, and ExitOk is %v; want %+v and %v", c.got, got, c.want, c.ok)
		}
	}
}

func TestExitName(t *testing.T) {
	for _, kind := range append(numbersAround(300), fewKinds...) {
		checkExitName(t, kind)
	}
	for kind, want := range []string{"none", "fault", "call", "out", "halt", "?"} {
		if got := impl.ExitName(kind); got != want {
			t.Errorf("ExitName(%d) = %q; want %q", kind, got, want)
		}
	}
	for _, kind := range []int{-1, -2, -5, 5, 6, 1 << 32, math.MinInt, math.MaxInt} {
		if got := impl.ExitName(kind); got != "?" {
			t.Errorf("ExitName(%d) = %q; want a question mark", kind, got)
		}
	}
}

// TestExitText takes exits of every kind and of kinds that are none, also with fields set that the kind does not use.
func TestExitText(t *testing.T) {
	for _, e := range slices.Concat(validExits(), someExits()) {
		checkExitText(t, e)
	}
	for _, n := range numbersAround(300) {
		for _, e := range exitsWith([]int{-1, 0, 1, 2, 3, 4, 5}, []int{n}, []int{0, -n}) {
			checkExitText(t, e)
		}
	}
}

func TestExitTextBounds(t *testing.T) {
	for _, c := range []struct {
		e    impl.Exit
		want string
	}{
		{impl.Exit{}, "none"},
		{impl.Exit{Kind: impl.ExHalt}, "halt"},
		{impl.Exit{Kind: impl.ExFault}, "fault 0 r"},
		{impl.Exit{Kind: impl.ExFault, Write: true}, "fault 0 w"},
		{impl.Exit{Kind: impl.ExFault, Page: 3}, "fault 3 r"},
		{impl.Exit{Kind: impl.ExFault, Page: 2, Write: true}, "fault 2 w"},
		{impl.Exit{Kind: impl.ExFault, Page: -1, Write: true}, "fault -1 w"},
		{impl.Exit{Kind: impl.ExFault, Page: 4}, "fault 4 r"},
		{impl.Exit{Kind: impl.ExFault, Page: math.MinInt}, "fault -9223372036854775808 r"},
		{impl.Exit{Kind: impl.ExFault, Page: math.MaxInt, Write: true}, "fault 9223372036854775807 w"},
		{impl.Exit{Kind: impl.ExFault, Page: 1, N: 50}, "fault 1 r"},
		{impl.Exit{Kind: impl.ExCall}, "call 0"},
		{impl.Exit{Kind: impl.ExCall, N: 7}, "call 7"},
		{impl.Exit{Kind: impl.ExCall, N: 100}, "call 100"},
		{impl.Exit{Kind: impl.ExCall, N: -20}, "call -20"},
		{impl.Exit{Kind: impl.ExCall, N: math.MinInt}, "call -9223372036854775808"},
		{impl.Exit{Kind: impl.ExCall, Page: 2, Write: true, N: 5}, "call 5"},
		{impl.Exit{Kind: impl.ExOut}, "out 0"},
		{impl.Exit{Kind: impl.ExOut, N: 99}, "out 99"},
		{impl.Exit{Kind: impl.ExOut, N: -1}, "out -1"},
		{impl.Exit{Kind: impl.ExOut, N: math.MaxInt}, "out 9223372036854775807"},
		{impl.Exit{Kind: impl.ExOut, Page: -3, Write: true, N: 6}, "out 6"},
		{impl.Exit{Page: 1, Write: true, N: 2}, "none"},
		{impl.Exit{Kind: impl.ExHalt, Page: 1, Write: true, N: 2}, "halt"},
		{impl.Exit{Kind: -1}, "?"}, {impl.Exit{Kind: 5}, "?"},
		{impl.Exit{Kind: math.MinInt, Page: 1, Write: true, N: 2}, "?"},
		{impl.Exit{Kind: math.MaxInt, Page: 3, N: 99}, "?"},
	} {
		if got := impl.ExitText(c.e); got != c.want {
			t.Errorf("ExitText(%+v) = %q; want %q", c.e, got, c.want)
		}
	}
}

// TestExitTextOfUnusedFields expects the text of the same exit with zeros in the fields that its kind does not use.
func TestExitTextOfUnusedFields(t *testing.T) {
	for _, e := range someExits() {
		used := impl.Exit{Kind: e.Kind}
		switch e.Kind {
		case impl.ExFault:
			used = impl.FaultExit(e.Page, e.Write)
		case impl.ExCall:
			used = impl.CallExit(e.N)
		case impl.ExOut:
			used = impl.OutExit(e.N)
		}
		if got, want := impl.ExitText(e), impl.ExitText(used); got != want {
			t.Errorf("ExitText(%+v) = %q, but %q for %+v", e, got, want, used)
		}
	}
}

// TestValidExitsHaveTheirOwnTexts finds no text twice.
func TestValidExitsHaveTheirOwnTexts(t *testing.T) {
	exits := map[string]impl.Exit{}
	for _, e := range validExits() {
		text := impl.ExitText(e)
		if other, ok := exits[text]; ok {
			t.Errorf("%+v and %+v have the same text %q", other, e, text)
		}
		exits[text] = e
	}
}

// TestExitsKeepNoState repeats calls, also after others with different arguments.
func TestExitsKeepNoState(t *testing.T) {
	all := slices.Concat(validExits(), someExits())
	for range 2 {
		for i, e := range all {
			for _, x := range []impl.Exit{e, all[len(all)-1-i], e, e} {
				checkExitOk(t, x)
				checkExitName(t, x.Kind)
				checkExitText(t, x)
				checkMadeExit(t, "FaultExit", impl.FaultExit(x.Page, x.Write), impl.Exit{Kind: 1, Page: x.Page, Write: x.Write})
				checkMadeExit(t, "CallExit", impl.CallExit(x.N), impl.Exit{Kind: 2, N: x.N})
				checkMadeExit(t, "OutExit", impl.OutExit(x.N), impl.Exit{Kind: 3, N: x.N})
			}
		}
	}
}
