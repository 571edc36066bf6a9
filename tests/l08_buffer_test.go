package tests

import (
	"fmt"
	"maps"
	"math"
	"slices"
	"testing"

	"loop.example/g00975/impl"
)

// oddNumbers are numbers that no tag, page, host or right of the program has, some of them with low bits that look like one, and their neighbours.
var oddNumbers = []int{0, 1, -1, -2, 1 << 32, 1<<32 + 1, -1 << 32, 1 - 1<<32, math.MaxInt - 1, math.MaxInt, math.MinInt, math.MinInt + 1}

// samePlace tells whether a and b are entries for the same page of the same guest.
func samePlace(a, b impl.Entry) bool {
	return a.Tag == b.Tag && a.Page == b.Page
}

// distinctEntries returns n entries for different pages. Tags, hosts and rights repeat, so that none of them alone tells the entries apart.
func distinctEntries(n int) []impl.Entry {
	b := make([]impl.Entry, n)
	for i := range b {
		b[i] = impl.Entry{Tag: 1 + i%3, Page: 20 + i/2, Host: i % 5, Rights: 1 + i%2}
	}
	return b
}

// bufferWithSpare returns the entries in front of a spare capacity, and that capacity with them. It holds entries for the same pages, so that reading it is noticed.
func bufferWithSpare(b []impl.Entry, spare int) (front, whole []impl.Entry) {
	whole = slices.Clone(b)
	for i := range spare {
		behind := impl.Entry{Tag: 1, Page: 1, Host: 1, Rights: 1}
		if len(b) > 0 {
			behind = b[i%len(b)]
		}
		behind.Rights += 50
		whole = append(whole, behind)
	}
	return whole[:len(b)], whole
}

// spoilBuffer overwrites all memory of a buffer, also the capacity behind it.
func spoilBuffer(b []impl.Entry) {
	whole := b[:cap(b)]
	for i := range whole {
		whole[i] = impl.Entry{Tag: -77, Page: -77, Host: -77, Rights: -77}
	}
}

// bufferStep is one change of a buffer: the call, the entries that it removes, and what it puts behind the others.
type bufferStep struct {
	name string
	call func(b []impl.Entry) []impl.Entry
	gone func(e impl.Entry) bool
	put  []impl.Entry
}

func putStep(put impl.Entry) bufferStep {
	return bufferStep{fmt.Sprint("PutEntry of ", put),
		func(b []impl.Entry) []impl.Entry { return impl.PutEntry(b, put) },
		func(e impl.Entry) bool { return samePlace(e, put) }, []impl.Entry{put}}
}

func flushPageStep(tag, page int) bufferStep {
	return bufferStep{fmt.Sprint("FlushPage of ", tag, page),
		func(b []impl.Entry) []impl.Entry { return impl.FlushPage(b, tag, page) },
		func(e impl.Entry) bool { return e.Tag == tag && e.Page == page }, nil}
}

func flushTagStep(tag int) bufferStep {
	return bufferStep{fmt.Sprint("FlushTag of ", tag),
		func(b []impl.Entry) []impl.Entry { return impl.FlushTag(b, tag) },
		func(e impl.Entry) bool { return e.Tag == tag }, nil}
}

func flushHostStep(host int) bufferStep {
	return bufferStep{fmt.Sprint("FlushHost of ", host),
		func(b []impl.Entry) []impl.Entry { return impl.FlushHost(b, host) },
		func(e impl.Entry) bool { return e.Host == host }, nil}
}

// stepsWith returns each kind of step with the fields of e.
func stepsWith(e impl.Entry) []bufferStep {
	return []bufferStep{putStep(e), flushPageStep(e.Tag, e.Page), flushTagStep(e.Tag), flushHostStep(e.Host)}
}

// want does what chapter 8 says, without the help of the program.
func (s bufferStep) want(b []impl.Entry) []impl.Entry {
	var want []impl.Entry
	for _, e := range b {
		if !s.gone(e) {
			want = append(want, e)
		}
	}
	if len(s.put) == 0 {
		return want
	}
	want = append(want, s.put...)
	for len(want) > 6 {
		want = want[1:]
	}
	return want
}

// checkBufferStep returns what the step returns. It fails if that is not what is expected, if the argument or the spare capacity behind it was modified, or if the result shares memory with them.
func checkBufferStep(t *testing.T, step bufferStep, b []impl.Entry) []impl.Entry {
	t.Helper()
	want := slices.Clone(step.want(b))
	for _, spare := range []int{0, 1, 8} {
		given, whole := bufferWithSpare(b, spare)
		before := slices.Clone(whole)
		got := step.call(given)
		if !slices.Equal(got, want) {
			t.Errorf("%s on %v = %v; want %v", step.name, b, got, want)
		}
		if !slices.Equal(whole, before) {
			t.Errorf("%s on %v, spare %d, modified the argument", step.name, b, spare)
		}
		result := slices.Clone(got)
		spoilBuffer(got)
		if !slices.Equal(whole, before) {
			t.Errorf("writing to %s on %v, spare %d, changes the argument", step.name, b, spare)
		}
		got = step.call(given)
		spoilBuffer(whole)
		if !slices.Equal(got, result) {
			t.Errorf("%s on %v, spare %d, changes with the argument, or from call to call", step.name, b, spare)
		}
	}
	return want
}

// placesAround returns the places of b, and places of which only the tag or only the page is in b, or both but of different entries or fields.
func placesAround(b []impl.Entry) []impl.Entry {
	places := []impl.Entry{{}, {Tag: 1, Page: 1}, {Tag: -1, Page: -1}, {Tag: math.MinInt, Page: math.MaxInt}}
	for i, e := range b {
		next := b[(i+1)%len(b)]
		places = append(places, e, impl.Entry{Tag: e.Tag, Page: e.Page + 1}, impl.Entry{Tag: e.Tag + 1, Page: e.Page},
			impl.Entry{Tag: e.Tag, Page: next.Page}, impl.Entry{Tag: e.Page, Page: e.Tag}, impl.Entry{Tag: e.Tag, Page: e.Host}, impl.Entry{Tag: e.Host, Page: e.Page},
			impl.Entry{Tag: e.Tag + 1<<32, Page: e.Page}, impl.Entry{Tag: e.Tag, Page: e.Page + 1<<32}, impl.Entry{Tag: e.Tag + 1, Page: e.Page - 1})
	}
	return places
}

// firstAt returns the first entry for the place, without the help of the program.
func firstAt(b []impl.Entry, place impl.Entry) (impl.Entry, bool) {
	for _, e := range b {
		if samePlace(e, place) {
			return e, true
		}
	}
	return impl.Entry{}, false
}

// noRepeats tells whether no two entries of b are for the same place.
func noRepeats(b []impl.Entry) bool {
	places := map[[2]int]bool{}
	for _, e := range b {
		places[[2]int{e.Tag, e.Page}] = true
	}
	return len(places) == len(b)
}

// tagsWanted returns the tags in strictly ascending order, without the help of the program.
func tagsWanted(b []impl.Entry) []int {
	tags := map[int]bool{}
	for _, e := range b {
		tags[e.Tag] = true
	}
	return slices.Sorted(maps.Keys(tags))
}

// checkBuffer compares what can be asked of b, also where a spare capacity lies behind it, with its entries.
func checkBuffer(t *testing.T, b []impl.Entry) {
	t.Helper()
	for _, spare := range []int{0, 4} {
		given, whole := bufferWithSpare(b, spare)
		before := slices.Clone(whole)
		if got, want := impl.BufferOk(given), len(b) <= 6 && noRepeats(b); got != want {
			t.Errorf("BufferOk(%v) = %v; want %v", b, got, want)
		}
		if got, want := impl.TagsIn(given), tagsWanted(b); !slices.Equal(got, want) {
			t.Errorf("TagsIn(%v) = %v; want %v", b, got, want)
		}
		for _, place := range placesAround(b) {
			want, found := firstAt(b, place)
			if got, ok := impl.FindEntry(given, place.Tag, place.Page); got != want || ok != found {
				t.Errorf("FindEntry(%v, %d, %d) = %v, %v; want %v, %v", b, place.Tag, place.Page, got, ok, want, found)
			}
		}
		if !slices.Equal(whole, before) {
			t.Errorf("%v, spare %d, was modified by asking it", b, spare)
		}
	}
}

// checkStepAndBuffer also compares what can be asked of the result.
func checkStepAndBuffer(t *testing.T, step bufferStep, b []impl.Entry) []impl.Entry {
	t.Helper()
	got := checkBufferStep(t, step, b)
	checkBuffer(t, got)
	return got
}

// checkEveryStep takes each kind of step with the fields of each place around b.
func checkEveryStep(t *testing.T, b []impl.Entry) {
	t.Helper()
	checkBuffer(t, b)
	for _, place := range placesAround(b) {
		for _, step := range stepsWith(place) {
			checkStepAndBuffer(t, step, b)
		}
	}
}

func TestBufferLimit(t *testing.T) {
	if impl.MaxBuffer != 6 {
		t.Errorf("MaxBuffer = %d; want 6", impl.MaxBuffer)
	}
}

func TestEmptyBuffers(t *testing.T) {
	spare := distinctEntries(4)
	for name, b := range map[string][]impl.Entry{"nil": nil, "empty": {}, "empty with a capacity": make([]impl.Entry, 0, 8), "empty in front of entries": spare[:0]} {
		for _, e := range []impl.Entry{{}, spare[0], spare[3], {Tag: -1, Page: -1, Host: -1, Rights: -1}} {
			if got := impl.PutEntry(b, e); !slices.Equal(got, []impl.Entry{e}) {
				t.Errorf("PutEntry(%s, %v) = %v; want that entry alone", name, e, got)
			}
			if got, ok := impl.FindEntry(b, e.Tag, e.Page); got != (impl.Entry{}) || ok {
				t.Errorf("FindEntry(%s, %d, %d) = %v, %v; want the zero entry, false", name, e.Tag, e.Page, got, ok)
			}
			for _, step := range stepsWith(e)[1:] {
				if got := step.call(b); len(got) != 0 {
					t.Errorf("%s on a buffer that is %s = %v; want none", step.name, name, got)
				}
			}
		}
		if !impl.BufferOk(b) {
			t.Errorf("BufferOk(%s) = false", name)
		}
		if got := impl.TagsIn(b); len(got) != 0 {
			t.Errorf("TagsIn(%s) = %v; want none", name, got)
		}
	}
	if !slices.Equal(spare, distinctEntries(4)) {
		t.Error("the entries behind an empty buffer were modified:", spare)
	}
}

// TestEveryShortBuffer takes all buffers of up to four entries with two tags, two pages and two hosts, repeated places among them. Their rights tell where they stood.
func TestEveryShortBuffer(t *testing.T) {
	var check func(b []impl.Entry)
	check = func(b []impl.Entry) {
		checkBuffer(t, b)
		for bits := range 12 {
			e := impl.Entry{Tag: bits % 3, Page: bits / 3 % 2, Host: bits / 6, Rights: 9}
			for _, step := range stepsWith(e) {
				checkBufferStep(t, step, b)
			}
		}
		if len(b) == 4 {
			return
		}
		for bits := range 8 {
			check(append(slices.Clone(b), impl.Entry{Tag: bits & 1, Page: bits >> 1 & 1, Host: bits >> 2, Rights: 10 + len(b)}))
		}
	}
	check(nil)
}

func TestTwoEntriesForTheSamePage(t *testing.T) {
	first, second := impl.Entry{Tag: 2, Page: 1, Host: 3, Rights: 1}, impl.Entry{Tag: 2, Page: 1, Host: 4, Rights: 3}
	other := impl.Entry{Tag: 2, Page: 7, Host: 3, Rights: 3}
	b := []impl.Entry{first, other, second}
	if impl.BufferOk(b) || impl.BufferOk([]impl.Entry{first, first}) || !impl.BufferOk([]impl.Entry{first, other}) || !impl.BufferOk([]impl.Entry{other, second}) {
		t.Errorf("BufferOk does not tell whether two entries of %v are for the same page", b)
	}
	for _, c := range []struct {
		b    []impl.Entry
		want impl.Entry
	}{{b, first}, {[]impl.Entry{second, other, first}, second}, {b[1:], second}, {impl.FlushHost(b, 3), second}, {impl.FlushHost(b, 4), first}} {
		if got, ok := impl.FindEntry(c.b, 2, 1); got != c.want || !ok {
			t.Errorf("FindEntry(%v, 2, 1) = %v, %v; want %v, true", c.b, got, ok, c.want)
		}
	}
	put := impl.Entry{Tag: 2, Page: 1, Host: 5, Rights: 2}
	cases := []struct {
		step bufferStep
		want []impl.Entry
	}{
		{putStep(put), []impl.Entry{other, put}}, {putStep(first), []impl.Entry{other, first}}, {putStep(second), []impl.Entry{other, second}},
		{flushPageStep(2, 1), []impl.Entry{other}}, {flushPageStep(2, 7), []impl.Entry{first, second}}, {flushPageStep(1, 2), b},
		{flushTagStep(2), nil}, {flushTagStep(1), b}, {flushHostStep(3), []impl.Entry{second}}, {flushHostStep(4), []impl.Entry{first, other}}, {flushHostStep(1), b},
	}
	for _, c := range cases {
		if got := checkStepAndBuffer(t, c.step, b); !slices.Equal(got, c.want) {
			t.Errorf("%s on %v = %v; want %v", c.step.name, b, got, c.want)
		}
	}
	if got, ok := impl.FindEntry(impl.PutEntry(b, put), 2, 1); got != put || !ok {
		t.Errorf("FindEntry behind PutEntry onto two entries for the page = %v, %v; want %v, true", got, ok, put)
	}
	if got, ok := impl.FindEntry(impl.FlushPage(b, 2, 1), 2, 1); got != (impl.Entry{}) || ok {
		t.Errorf("FindEntry behind FlushPage of two entries for the page = %v, %v; want the zero entry, false", got, ok)
	}
}

// TestEntriesThatAgreeInOneField expects that neither the tag nor the page nor the host and the rights alone make two entries the same.
func TestEntriesThatAgreeInOneField(t *testing.T) {
	e := impl.Entry{Tag: 1, Page: 2, Host: 3, Rights: 3}
	for _, other := range []impl.Entry{{Tag: 1, Page: 5, Host: 3, Rights: 3}, {Tag: 4, Page: 2, Host: 3, Rights: 3}, {Tag: 4, Page: 5, Host: 3, Rights: 3}, {Tag: 2, Page: 1, Host: 3, Rights: 3}, {Tag: 4, Page: 5, Host: 6, Rights: 1}} {
		b := impl.PutEntry(impl.PutEntry(nil, other), e)
		if !slices.Equal(b, []impl.Entry{other, e}) || !impl.BufferOk(b) {
			t.Errorf("PutEntry of %v onto %v = %v; want both", e, other, b)
		}
		if got, ok := impl.FindEntry(b, 1, 2); got != e || !ok {
			t.Errorf("FindEntry(%v, 1, 2) = %v, %v; want %v, true", b, got, ok, e)
		}
		if got := impl.FlushPage(b, 1, 2); !slices.Equal(got, []impl.Entry{other}) {
			t.Errorf("FlushPage(%v, 1, 2) = %v; want %v alone", b, got, other)
		}
		if got, ok := impl.FindEntry([]impl.Entry{other}, 1, 2); got != (impl.Entry{}) || ok {
			t.Errorf("FindEntry(%v, 1, 2) = %v, %v; want the zero entry, false", other, got, ok)
		}
		checkEveryStep(t, b)
	}
}

// TestPutOntoEveryLength puts an entry for a new page, and one for the page of each entry, of each two entries, and of all of them.
func TestPutOntoEveryLength(t *testing.T) {
	put := impl.Entry{Tag: 8, Page: 8, Host: 8, Rights: 2}
	at := func(e impl.Entry) impl.Entry {
		return impl.Entry{Tag: put.Tag, Page: put.Page, Host: e.Host, Rights: e.Rights}
	}
	for n := range 16 {
		b := distinctEntries(n)
		checkStepAndBuffer(t, putStep(put), b)
		all := slices.Clone(b)
		for i := range b {
			all[i] = at(all[i])
			one := slices.Clone(b)
			one[i] = at(one[i])
			checkStepAndBuffer(t, putStep(put), one)
			checkStepAndBuffer(t, putStep(b[i]), b)
			for j := range i {
				two := slices.Clone(one)
				two[j] = at(two[j])
				checkStepAndBuffer(t, putStep(put), two)
			}
			checkStepAndBuffer(t, putStep(put), all)
		}
	}
	for _, n := range []int{24, 49, 100, 1000} {
		b := distinctEntries(n)
		for _, i := range []int{0, 1, n / 2, n - 7, n - 6, n - 5, n - 2, n - 1} {
			checkBufferStep(t, putStep(impl.Entry{Tag: b[i].Tag, Page: b[i].Page, Host: 9, Rights: 3}), b)
		}
		checkBufferStep(t, putStep(put), b)
	}
}

// TestPutKeepsTheLastEntries names what remains on both sides of the limit.
func TestPutKeepsTheLastEntries(t *testing.T) {
	b := distinctEntries(9)
	put := impl.Entry{Tag: 8, Page: 8, Host: 8, Rights: 2}
	again := impl.Entry{Tag: b[3].Tag, Page: b[3].Page, Host: 9, Rights: 3}
	cases := []struct {
		b    []impl.Entry
		put  impl.Entry
		want []impl.Entry
	}{
		{b[:4], put, []impl.Entry{b[0], b[1], b[2], b[3], put}}, {b[:4], again, []impl.Entry{b[0], b[1], b[2], again}},
		{b[:5], put, []impl.Entry{b[0], b[1], b[2], b[3], b[4], put}}, {b[:5], again, []impl.Entry{b[0], b[1], b[2], b[4], again}},
		{b[:6], put, []impl.Entry{b[1], b[2], b[3], b[4], b[5], put}}, {b[:6], again, []impl.Entry{b[0], b[1], b[2], b[4], b[5], again}},
		{b[:7], put, []impl.Entry{b[2], b[3], b[4], b[5], b[6], put}}, {b[:7], again, []impl.Entry{b[1], b[2], b[4], b[5], b[6], again}},
		{b, put, []impl.Entry{b[4], b[5], b[6], b[7], b[8], put}}, {b, again, []impl.Entry{b[4], b[5], b[6], b[7], b[8], again}},
		{b[3:], again, []impl.Entry{b[4], b[5], b[6], b[7], b[8], again}}, {b[:1], b[0], b[:1]}, {b[:6], b[5], b[:6]},
	}
	for _, c := range cases {
		if got := checkStepAndBuffer(t, putStep(c.put), c.b); !slices.Equal(got, c.want) {
			t.Errorf("PutEntry(%v, %v) = %v; want %v", c.b, c.put, got, c.want)
		}
	}
}

// lastSix returns the entries that were put last for the last six places, in the order in which they were put.
func lastSix(puts []impl.Entry) []impl.Entry {
	var last []impl.Entry
	for i := len(puts) - 1; i >= 0 && len(last) < 6; i-- {
		if _, found := firstAt(last, puts[i]); !found {
			last = append(last, puts[i])
		}
	}
	slices.Reverse(last)
	return last
}

// checkRun puts the entries one after the other and looks for all of them after each one.
func checkRun(t *testing.T, puts []impl.Entry) {
	t.Helper()
	var b []impl.Entry
	for i, e := range puts {
		b = impl.PutEntry(b, e)
		want := lastSix(puts[:i+1])
		if !slices.Equal(b, want) || !impl.BufferOk(b) {
			t.Fatalf("after %v the buffer is %v; want %v", puts[:i+1], b, want)
		}
		if got, ok := impl.FindEntry(b, e.Tag, e.Page); got != e || !ok {
			t.Fatalf("FindEntry behind PutEntry of %v = %v, %v", e, got, ok)
		}
		for _, earlier := range puts[:i] {
			last, found := firstAt(want, earlier)
			if got, ok := impl.FindEntry(b, earlier.Tag, earlier.Page); got != last || ok != found {
				t.Fatalf("after %v FindEntry of %v = %v, %v; want %v, %v", puts[:i+1], earlier, got, ok, last, found)
			}
		}
	}
}

func TestRunOfDifferentPages(t *testing.T) {
	puts := distinctEntries(60)
	checkRun(t, puts)
	var b []impl.Entry
	for i, e := range puts {
		b = impl.PutEntry(b, e)
		for j, earlier := range puts {
			got, ok := impl.FindEntry(b, earlier.Tag, earlier.Page)
			if kept := j <= i && j > i-6; ok != kept || kept && got != earlier {
				t.Errorf("after %d entries FindEntry of number %d (%v) = %v, %v", i+1, j+1, earlier, got, ok)
			}
		}
	}
}

// TestRunOfRepeatedPages puts entries for few and for many pages again and again, with other hosts and rights each time.
func TestRunOfRepeatedPages(t *testing.T) {
	for places := 1; places <= 12; places++ {
		for stride := 1; stride <= 7; stride++ {
			var puts []impl.Entry
			for i := range 50 {
				place := (i*stride + i*i/7) % places
				puts = append(puts, impl.Entry{Tag: place % 3, Page: place / 3, Host: i, Rights: i % 4})
			}
			checkRun(t, puts)
		}
	}
}

// foundAfter returns the entry that the last put for a place leaves, unless it was flushed since. It takes less than seven steps, so that no entry is too old.
func foundAfter(steps []bufferStep, place impl.Entry) (impl.Entry, bool) {
	var last impl.Entry
	found := false
	for _, step := range steps {
		if found && step.gone(last) {
			last, found = impl.Entry{}, false
		}
		if len(step.put) == 1 && samePlace(step.put[0], place) {
			last, found = step.put[0], true
		}
	}
	return last, found
}

// TestPutsAndFlushesInEveryOrder takes five steps in each order, and looks for each place after each step.
func TestPutsAndFlushesInEveryOrder(t *testing.T) {
	entries := []impl.Entry{{Tag: 1, Page: 1, Host: 1, Rights: 1}, {Tag: 1, Page: 1, Host: 2, Rights: 3}, {Tag: 1, Page: 2, Host: 2, Rights: 1}, {Tag: 2, Page: 1, Host: 1, Rights: 2}}
	steps := []bufferStep{putStep(entries[0]), putStep(entries[1]), putStep(entries[2]), putStep(entries[3]), flushPageStep(1, 1), flushPageStep(2, 2), flushTagStep(1), flushHostStep(2)}
	var take func(b []impl.Entry, taken []bufferStep)
	take = func(b []impl.Entry, taken []bufferStep) {
		for _, place := range []impl.Entry{entries[0], entries[2], entries[3], {Tag: 2, Page: 2}} {
			want, found := foundAfter(taken, place)
			if got, ok := impl.FindEntry(b, place.Tag, place.Page); got != want || ok != found || !impl.BufferOk(b) {
				var names []string
				for _, step := range taken {
					names = append(names, step.name)
				}
				t.Fatalf("after %q FindEntry of %d, %d = %v, %v in %v; want %v, %v", names, place.Tag, place.Page, got, ok, b, want, found)
			}
		}
		if len(taken) == 5 {
			return
		}
		for _, step := range steps {
			take(step.call(b), append(slices.Clone(taken), step))
		}
	}
	take(nil, nil)
}

// flushBuffer holds values that occur once (tag 3, host 4), several times (tag 1, host 2, tag 1 with page 5) and next to each other.
var flushBuffer = []impl.Entry{
	{Tag: 1, Page: 5, Host: 2, Rights: 1}, {Tag: 1, Page: 6, Host: 2, Rights: 2}, {Tag: 2, Page: 5, Host: 1, Rights: 3}, {Tag: 1, Page: 5, Host: 4, Rights: 3},
	{Tag: 3, Page: 7, Host: 2, Rights: 1}, {Tag: 2, Page: 6, Host: 3, Rights: 1}, {Tag: 1, Page: 5, Host: 3, Rights: 2}, {Tag: 2, Page: 1, Host: 1, Rights: 2},
}

func TestFlushes(t *testing.T) {
	cases := []struct {
		step bufferStep
		rest []int
	}{
		{flushPageStep(1, 5), []int{1, 2, 4, 5, 7}}, {flushPageStep(1, 6), []int{0, 2, 3, 4, 5, 6, 7}}, {flushPageStep(2, 1), []int{0, 1, 2, 3, 4, 5, 6}}, {flushPageStep(3, 7), []int{0, 1, 2, 3, 5, 6, 7}},
		{flushPageStep(3, 5), []int{0, 1, 2, 3, 4, 5, 6, 7}}, {flushPageStep(5, 1), []int{0, 1, 2, 3, 4, 5, 6, 7}}, {flushPageStep(1, 2), []int{0, 1, 2, 3, 4, 5, 6, 7}},
		{flushTagStep(1), []int{2, 4, 5, 7}}, {flushTagStep(2), []int{0, 1, 3, 4, 6}}, {flushTagStep(3), []int{0, 1, 2, 3, 5, 6, 7}},
		{flushTagStep(4), []int{0, 1, 2, 3, 4, 5, 6, 7}}, {flushTagStep(5), []int{0, 1, 2, 3, 4, 5, 6, 7}}, {flushTagStep(0), []int{0, 1, 2, 3, 4, 5, 6, 7}},
		{flushHostStep(1), []int{0, 1, 3, 4, 5, 6}}, {flushHostStep(2), []int{2, 3, 5, 6, 7}}, {flushHostStep(3), []int{0, 1, 2, 3, 4, 7}}, {flushHostStep(4), []int{0, 1, 2, 4, 5, 6, 7}},
		{flushHostStep(5), []int{0, 1, 2, 3, 4, 5, 6, 7}}, {flushHostStep(7), []int{0, 1, 2, 3, 4, 5, 6, 7}}, {flushHostStep(0), []int{0, 1, 2, 3, 4, 5, 6, 7}},
	}
	for _, c := range cases {
		var want []impl.Entry
		for _, i := range c.rest {
			want = append(want, flushBuffer[i])
		}
		if got := checkStepAndBuffer(t, c.step, flushBuffer); !slices.Equal(got, want) {
			t.Errorf("%s on %v = %v; want %v", c.step.name, flushBuffer, got, want)
		}
	}
	for n := range len(flushBuffer) {
		checkEveryStep(t, flushBuffer[:n])
		checkEveryStep(t, flushBuffer[n:])
	}
}

// checkFlushed flushes b and looks for its entries: those that were flushed are not found, and the others are.
func checkFlushed(t *testing.T, step bufferStep, b []impl.Entry) {
	t.Helper()
	got := checkStepAndBuffer(t, step, b)
	for _, e := range b {
		found, ok := impl.FindEntry(got, e.Tag, e.Page)
		if ok == step.gone(e) || ok && found != e {
			t.Errorf("FindEntry of %v behind %s on %v = %v, %v", e, step.name, b, found, ok)
		}
	}
}

// TestFlushedEntriesAreNotFound flushes values that occur never, at each index once, and in every entry.
func TestFlushedEntriesAreNotFound(t *testing.T) {
	for n := range 10 {
		b := make([]impl.Entry, n)
		for i := range b {
			b[i] = impl.Entry{Tag: i + 1, Page: 20 - i, Host: 30 + i, Rights: 1 + i%3}
		}
		sameTag, sameHost, all := slices.Clone(b), slices.Clone(b), slices.Clone(b)
		for i := range b {
			sameTag[i].Tag, sameHost[i].Host = 7, 7
			all[i] = impl.Entry{Tag: 7, Page: 7, Host: 7, Rights: i}
			for _, step := range stepsWith(b[i])[1:] {
				checkFlushed(t, step, b)
			}
			checkFlushed(t, flushPageStep(7, b[i].Page), sameTag)
			checkFlushed(t, flushPageStep(b[i].Tag, b[i].Page), sameHost)
			checkFlushed(t, flushHostStep(b[i].Host), sameTag)
			checkFlushed(t, flushTagStep(b[i].Tag), sameHost)
		}
		for _, never := range oddNumbers[4:] {
			for _, step := range []bufferStep{flushPageStep(never, 20), flushPageStep(1, never), flushPageStep(never, never), flushTagStep(never), flushHostStep(never)} {
				checkFlushed(t, step, b)
			}
		}
		checkFlushed(t, flushTagStep(7), sameTag)
		checkFlushed(t, flushHostStep(7), sameHost)
		for _, step := range []bufferStep{flushPageStep(7, 7), flushTagStep(7), flushHostStep(7)} {
			if got := checkStepAndBuffer(t, step, all); len(got) != 0 {
				t.Errorf("%s on %v = %v; want none", step.name, all, got)
			}
		}
	}
}

// TestFlushesOfLongBuffers expects that a flush does not shorten a buffer to MaxBuffer.
func TestFlushesOfLongBuffers(t *testing.T) {
	for _, n := range []int{6, 7, 8, 24, 100, 1000} {
		b := distinctEntries(n)
		for _, i := range []int{0, 1, n / 2, n - 1} {
			for _, step := range stepsWith(b[i])[1:] {
				checkBufferStep(t, step, b)
			}
		}
		for _, step := range []bufferStep{flushPageStep(8, 8), flushTagStep(8), flushHostStep(8)} {
			if got := checkBufferStep(t, step, b); len(got) != n {
				t.Errorf("%s on %d entries leaves %d; want all", step.name, n, len(got))
			}
		}
	}
}

func TestTagsIn(t *testing.T) {
	cases := []struct{ tags, want []int }{
		{nil, nil}, {[]int{4}, []int{4}}, {[]int{0}, []int{0}}, {[]int{2, 2}, []int{2}}, {[]int{1, 2, 3}, []int{1, 2, 3}}, {[]int{3, 2, 1}, []int{1, 2, 3}},
		{[]int{2, 1, 2, 1, 2}, []int{1, 2}}, {[]int{5, 5, 1, 1, 5, 5}, []int{1, 5}}, {[]int{1, 3, 1, 2, 3, 2, 1}, []int{1, 2, 3}}, {[]int{10, 9, 100, 9}, []int{9, 10, 100}},
		{[]int{0, -1, 1, -1, 0}, []int{-1, 0, 1}}, {[]int{-3, -1, -2}, []int{-3, -2, -1}}, {slices.Repeat([]int{6}, 50), []int{6}},
		{[]int{math.MaxInt, math.MinInt, 0, math.MaxInt}, []int{math.MinInt, 0, math.MaxInt}}, {[]int{1 << 32, 0, 1<<32 + 1, 1}, []int{0, 1, 1 << 32, 1<<32 + 1}},
	}
	for _, c := range cases {
		var b []impl.Entry
		for i, tag := range c.tags {
			b = append(b, impl.Entry{Tag: tag, Page: 100 - i, Host: 50 - i, Rights: i})
		}
		checkBuffer(t, b)
		got := impl.TagsIn(b)
		if !slices.Equal(got, c.want) {
			t.Errorf("TagsIn of the tags %v = %v; want %v", c.tags, got, c.want)
		}
		for i := range got {
			got[i] = -77
		}
		if again := impl.TagsIn(b); !slices.Equal(again, c.want) {
			t.Errorf("TagsIn of the tags %v keeps what was written to an earlier result: %v", c.tags, again)
		}
	}
}

// TestTagsInEveryOrder takes all buffers of up to five entries with three tags, and a long one.
func TestTagsInEveryOrder(t *testing.T) {
	var check func(b []impl.Entry)
	check = func(b []impl.Entry) {
		if got, want := impl.TagsIn(b), tagsWanted(b); !slices.Equal(got, want) {
			t.Errorf("TagsIn(%v) = %v; want %v", b, got, want)
		}
		if len(b) == 5 {
			return
		}
		for _, tag := range []int{-4, 7, 3} {
			check(append(slices.Clone(b), impl.Entry{Tag: tag, Page: len(b)}))
		}
	}
	check(nil)
	long := make([]impl.Entry, 1000)
	for i := range long {
		long[i] = impl.Entry{Tag: i * i % 257, Page: i}
	}
	checkBuffer(t, long[:60])
	if got, want := impl.TagsIn(long), tagsWanted(long); !slices.Equal(got, want) {
		t.Errorf("TagsIn of 1000 entries = %v; want %v", got, want)
	}
}

// TestOddNumbers puts each odd number into each field: the entries are not checked, and none of the numbers is taken for another.
func TestOddNumbers(t *testing.T) {
	var all []impl.Entry
	for i, n := range oddNumbers {
		for j, m := range oddNumbers {
			all = append(all, impl.Entry{Tag: n, Page: m, Host: oddNumbers[(i+j)%len(oddNumbers)], Rights: oddNumbers[(i+2*j)%len(oddNumbers)]})
		}
	}
	for i, e := range all {
		if got, ok := impl.FindEntry(all, e.Tag, e.Page); got != e || !ok {
			t.Errorf("FindEntry of %d, %d = %v, %v; want %v, true", e.Tag, e.Page, got, ok, e)
		}
		if got, ok := impl.FindEntry(append(slices.Clone(all[:i]), all[i+1:]...), e.Tag, e.Page); got != (impl.Entry{}) || ok {
			t.Errorf("FindEntry of %d, %d = %v, %v; want the zero entry, false", e.Tag, e.Page, got, ok)
		}
		for _, step := range stepsWith(e) {
			checkBufferStep(t, step, all)
			checkStepAndBuffer(t, step, all[i:min(i+6, len(all))])
		}
	}
	checkRun(t, all)
}

func TestFindTheZeroEntry(t *testing.T) {
	if got, ok := impl.FindEntry([]impl.Entry{{Tag: 1}, {}}, 0, 0); got != (impl.Entry{}) || !ok {
		t.Errorf("FindEntry of the zero entry = %v, %v; want it and true", got, ok)
	}
	if got, ok := impl.FindEntry([]impl.Entry{{Tag: 1}, {Page: 1}}, 0, 0); got != (impl.Entry{}) || ok {
		t.Errorf("FindEntry of a missing zero entry = %v, %v; want the zero entry, false", got, ok)
	}
}

func TestBufferOkOfLengths(t *testing.T) {
	for _, n := range []int{0, 1, 2, 3, 4, 5, 6, 7, 8, 12, 24, 100, 1000} {
		if got := impl.BufferOk(distinctEntries(n)); got != (n <= 6) {
			t.Errorf("BufferOk of %d entries for different pages = %v", n, got)
		}
	}
}

// TestBufferOkOfRepeatedPages repeats a page at every two positions, with the same and with another host and other rights.
func TestBufferOkOfRepeatedPages(t *testing.T) {
	for n := 2; n <= 8; n++ {
		for i := range n {
			for j := range i {
				b := distinctEntries(n)
				b[i] = b[j]
				checkBuffer(t, b)
				b[i].Host, b[i].Rights = b[j].Host+1, b[j].Rights^3
				checkBuffer(t, b)
				if impl.BufferOk(b) {
					t.Errorf("BufferOk(%v) with the same page at %d and %d = true", b, j, i)
				}
				b[i].Page = -1
				if got := impl.BufferOk(b); got != (n <= 6) {
					t.Errorf("BufferOk(%v) = %v", b, got)
				}
			}
		}
	}
}
