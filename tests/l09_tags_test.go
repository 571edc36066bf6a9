package tests

import (
	"fmt"
	"math"
	"slices"
	"testing"

	"loop.example/g00975/impl"
)

// tagsOfMons are the tags as chapter 9 numbers them: one row for each hypervisor, in which the tag of each guest stands at its number.
var tagsOfMons = [][]int{{1, 2}, {3, 4}, {5, 6}}

// wantTags returns the tags of a hypervisor, without the help of the program.
func wantTags(m int) []int {
	if m < 0 || m >= len(tagsOfMons) {
		return nil
	}
	return tagsOfMons[m]
}

// wantTag returns the tag of a guest, without the help of the program.
func wantTag(m, g int) int {
	tags := wantTags(m)
	if g < 0 || g >= len(tags) {
		return 0
	}
	return tags[g]
}

// wantGuest returns the hypervisor and the guest of a tag, without the help of the program.
func wantGuest(tag int) (m, g int) {
	for m, tags := range tagsOfMons {
		if g := slices.Index(tags, tag); g >= 0 {
			return m, g
		}
	}
	return -1, -1
}

// numbersAround returns all numbers from -n to n, and numbers far outside, with those that a product, a sum or fewer bits would take for a small one.
func numbersAround(n int) []int {
	var numbers []int
	for i := -n; i <= n; i++ {
		numbers = append(numbers, i)
	}
	for _, shift := range []int{8, 15, 16, 31, 32, 33, 60, 61, 62, 63} {
		far := math.MinInt
		if shift < 63 {
			far = 1 << shift
		}
		for i := -7; i <= 7; i++ {
			numbers = append(numbers, far+i, i-far)
		}
	}
	return append(numbers, oddNumbers...)
}

func flushMonStep(m int) bufferStep {
	return bufferStep{fmt.Sprint("FlushMon of ", m),
		func(b []impl.Entry) []impl.Entry { return impl.FlushMon(b, m) },
		func(e impl.Entry) bool { return slices.Contains(wantTags(m), e.Tag) }, nil}
}

// checkFlushesOfMons flushes each hypervisor, and numbers that are none.
func checkFlushesOfMons(t *testing.T, b []impl.Entry) {
	t.Helper()
	for _, m := range []int{-2, -1, 0, 1, 2, 3, 4, math.MinInt, math.MaxInt} {
		got := checkStepAndBuffer(t, flushMonStep(m), b)
		if len(wantTags(m)) == 0 && !slices.Equal(got, b) {
			t.Errorf("FlushMon of %d, which is no hypervisor, on %v = %v", m, b, got)
		}
	}
}

// entriesWithTags returns an entry for each tag. Their pages differ.
func entriesWithTags(tags ...int) []impl.Entry {
	b := make([]impl.Entry, len(tags))
	for i, tag := range tags {
		b[i] = impl.Entry{Tag: tag, Page: 20 + i, Host: 10 + i%3, Rights: 1 + i%2}
	}
	return b
}

func TestTagLimits(t *testing.T) {
	if impl.MaxMons != 3 || impl.MaxGuests != 2 {
		t.Errorf("MaxMons = %d, MaxGuests = %d; want 3 and 2", impl.MaxMons, impl.MaxGuests)
	}
}

func TestTagOf(t *testing.T) {
	numbers := numbersAround(20)
	for _, m := range numbers {
		for _, g := range numbers {
			if got, want := impl.TagOf(m, g), wantTag(m, g); got != want {
				t.Errorf("TagOf(%d, %d) = %d; want %d", m, g, got, want)
			}
		}
	}
}

// TestTagOfFormula compares the tags with the formula of chapter 9.
func TestTagOfFormula(t *testing.T) {
	for m := range impl.MaxMons {
		for g := range impl.MaxGuests {
			if got, want := impl.TagOf(m, g), 1+g+m*impl.MaxGuests; got != want {
				t.Errorf("TagOf(%d, %d) = %d; want %d", m, g, got, want)
			}
		}
	}
}

func TestTagOfBounds(t *testing.T) {
	for _, c := range []struct{ m, g, want int }{
		{0, 0, 1}, {0, 1, 2}, {1, 0, 3}, {2, 0, 5}, {2, 1, 6}, {-1, 0, 0}, {3, 0, 0}, {3, 1, 0}, {0, -1, 0}, {0, 2, 0}, {2, -1, 0}, {2, 2, 0},
		// The formula would give these the tag of a guest.
		{-1, 2, 0}, {-1, 3, 0}, {1, -1, 0}, {1, -2, 0}, {3, -1, 0}, {3, -6, 0}, {math.MinInt, 0, 0}, {math.MinInt, 1, 0}, {1 << 62, math.MinInt, 0}, {math.MaxInt, 2, 0}, {math.MaxInt, 3, 0},
		{math.MinInt, math.MinInt, 0}, {math.MaxInt, math.MaxInt, 0}, {0, math.MinInt, 0}, {0, math.MaxInt, 0}, {2, math.MaxInt, 0},
	} {
		if got := impl.TagOf(c.m, c.g); got != c.want {
			t.Errorf("TagOf(%d, %d) = %d; want %d", c.m, c.g, got, c.want)
		}
	}
}

func TestTagMonAndTagGuest(t *testing.T) {
	for _, tag := range numbersAround(1000) {
		m, g := wantGuest(tag)
		if got := impl.TagMon(tag); got != m {
			t.Errorf("TagMon(%d) = %d; want %d", tag, got, m)
		}
		if got := impl.TagGuest(tag); got != g {
			t.Errorf("TagGuest(%d) = %d; want %d", tag, got, g)
		}
	}
}

func TestNumbersThatAreNoTags(t *testing.T) {
	for _, tag := range []int{0, -1, -2, -3, -4, -5, -6, -7, 7, 8, 9, 10, 100, -100, 1<<32 + 1, math.MinInt, math.MinInt + 1, math.MinInt + 2, math.MaxInt - 1, math.MaxInt} {
		if m, g := impl.TagMon(tag), impl.TagGuest(tag); m != -1 || g != -1 {
			t.Errorf("TagMon and TagGuest of %d = %d, %d; want -1 and -1", tag, m, g)
		}
	}
}

// TestEveryGuestHasItsOwnTag is the promise itself: no tag is shared, and each leads back to its guest.
func TestEveryGuestHasItsOwnTag(t *testing.T) {
	owners := map[int][2]int{}
	for m := range impl.MaxMons {
		for g := range impl.MaxGuests {
			tag := impl.TagOf(m, g)
			if tag <= 0 {
				t.Errorf("TagOf(%d, %d) = %d, which is no tag", m, g, tag)
			}
			if owner, taken := owners[tag]; taken {
				t.Errorf("guest %d of %d has the tag %d of guest %d of %d", g, m, tag, owner[1], owner[0])
			}
			owners[tag] = [2]int{m, g}
			if impl.TagMon(tag) != m || impl.TagGuest(tag) != g {
				t.Errorf("TagMon and TagGuest of the tag %d = %d, %d; want %d, %d", tag, impl.TagMon(tag), impl.TagGuest(tag), m, g)
			}
		}
	}
	for _, tag := range numbersAround(100) {
		m, g := impl.TagMon(tag), impl.TagGuest(tag)
		if _, isTag := owners[tag]; isTag != (m != -1) || isTag != (g != -1) {
			t.Errorf("TagMon and TagGuest of %d = %d, %d, but TagOf returns it: %v", tag, m, g, isTag)
		}
		if back := impl.TagOf(m, g); m != -1 && back != tag {
			t.Errorf("TagOf(TagMon, TagGuest) of %d = %d", tag, back)
		}
	}
}

func TestTagsOf(t *testing.T) {
	for _, m := range numbersAround(50) {
		if got, want := impl.TagsOf(m), wantTags(m); !slices.Equal(got, want) {
			t.Errorf("TagsOf(%d) = %v; want %v", m, got, want)
		}
	}
	for m := range impl.MaxMons {
		tags := impl.TagsOf(m)
		if len(tags) != impl.MaxGuests || !slices.IsSorted(tags) {
			t.Errorf("TagsOf(%d) = %v; want %d tags in ascending order", m, tags, impl.MaxGuests)
		}
		for g, tag := range tags {
			if impl.TagOf(m, g) != tag || impl.TagMon(tag) != m || impl.TagGuest(tag) != g {
				t.Errorf("TagsOf(%d)[%d] = %d; TagOf, TagMon and TagGuest say %d, %d, %d", m, g, tag, impl.TagOf(m, g), impl.TagMon(tag), impl.TagGuest(tag))
			}
		}
	}
}

// TestTagsOfDifferentMons expects that two hypervisors have no tag in common, and all of them together each tag once.
func TestTagsOfDifferentMons(t *testing.T) {
	var all []int
	for m := -5; m <= 10; m++ {
		tags := impl.TagsOf(m)
		for _, tag := range tags {
			if slices.Contains(all, tag) {
				t.Errorf("TagsOf(%d) = %v has a tag in common with the hypervisors before it: %v", m, tags, all)
			}
		}
		all = append(all, tags...)
	}
	if want := []int{1, 2, 3, 4, 5, 6}; !slices.Equal(all, want) {
		t.Errorf("the tags of all hypervisors are %v; want %v", all, want)
	}
}

func TestTagsOfIsNewMemory(t *testing.T) {
	for _, m := range []int{-1, 0, 1, 2, 3} {
		first, second := impl.TagsOf(m), impl.TagsOf(m)
		whole := first[:cap(first)]
		for i := range whole {
			whole[i] = -77
		}
		for name, got := range map[string][]int{"earlier": second, "later": impl.TagsOf(m)} {
			if !slices.Equal(got, wantTags(m)) {
				t.Errorf("an %s TagsOf(%d) shares memory with the one that was overwritten: %v", name, m, got)
			}
		}
		for other := range impl.MaxMons {
			if got := impl.TagsOf(other); !slices.Equal(got, wantTags(other)) {
				t.Errorf("TagsOf(%d) shares memory with TagsOf(%d): %v", other, m, got)
			}
		}
	}
}

func TestFlushMon(t *testing.T) {
	b := entriesWithTags(3, 1, 6, 4, 2, 3, 5, 1, 0)
	for _, c := range []struct {
		m    int
		rest []int
	}{
		{0, []int{0, 2, 3, 5, 6, 8}}, {1, []int{1, 2, 4, 6, 7, 8}}, {2, []int{0, 1, 3, 4, 5, 7, 8}},
		{-1, []int{0, 1, 2, 3, 4, 5, 6, 7, 8}}, {3, []int{0, 1, 2, 3, 4, 5, 6, 7, 8}}, {math.MinInt, []int{0, 1, 2, 3, 4, 5, 6, 7, 8}}, {math.MaxInt, []int{0, 1, 2, 3, 4, 5, 6, 7, 8}},
	} {
		var want []impl.Entry
		for _, i := range c.rest {
			want = append(want, b[i])
		}
		if got := checkStepAndBuffer(t, flushMonStep(c.m), b); !slices.Equal(got, want) {
			t.Errorf("FlushMon(%v, %d) = %v; want %v", b, c.m, got, want)
		}
	}
}

func TestFlushMonOfEmptyBuffers(t *testing.T) {
	behind := entriesWithTags(1, 2, 3, 4, 5, 6)
	for name, b := range map[string][]impl.Entry{"nil": nil, "empty": {}, "empty with a capacity": make([]impl.Entry, 0, 8), "empty in front of entries": behind[:0]} {
		for _, m := range numbersAround(5) {
			if got := impl.FlushMon(b, m); len(got) != 0 {
				t.Errorf("FlushMon of %d on a buffer that is %s = %v; want none", m, name, got)
			}
		}
	}
	if !slices.Equal(behind, entriesWithTags(1, 2, 3, 4, 5, 6)) {
		t.Error("the entries behind an empty buffer were modified:", behind)
	}
}

// TestFlushMonInEveryOrder takes all buffers of up to four entries with some tags of guests and some numbers that are no tags.
func TestFlushMonInEveryOrder(t *testing.T) {
	var check func(b []impl.Entry)
	check = func(b []impl.Entry) {
		for m := -1; m <= 3; m++ {
			checkBufferStep(t, flushMonStep(m), b)
		}
		if len(b) == 4 {
			return
		}
		for i, tag := range []int{4, 0, 2, 5, 3, 7, -1} {
			check(append(slices.Clone(b), impl.Entry{Tag: tag, Page: len(b), Host: i, Rights: 3}))
		}
	}
	check(nil)
}

// TestFlushMonOccurrences flushes tags that occur never, once at each index, at each two indexes, and in every entry.
func TestFlushMonOccurrences(t *testing.T) {
	for m, tags := range tagsOfMons {
		others := slices.Concat(wantTags((m+1)%3), wantTags((m+2)%3), []int{0, 7, -1})
		for n := range 9 {
			never := entriesWithTags(slices.Repeat(others, 2)[:n]...)
			checkFlushed(t, flushMonStep(m), never)
			if got := impl.FlushMon(never, m); !slices.Equal(got, never) {
				t.Errorf("FlushMon(%v, %d) = %v; want all", never, m, got)
			}
			every := slices.Clone(never)
			for i := range never {
				every[i].Tag = tags[i%2]
				for _, tag := range tags {
					once := slices.Clone(never)
					once[i].Tag = tag
					checkFlushed(t, flushMonStep(m), once)
					if got, want := impl.FlushMon(once, m), slices.Delete(slices.Clone(never), i, i+1); !slices.Equal(got, want) {
						t.Errorf("FlushMon(%v, %d) = %v; want %v", once, m, got, want)
					}
					for j := range i {
						twice := slices.Clone(once)
						twice[j].Tag = tags[(i+j)%2]
						checkFlushed(t, flushMonStep(m), twice)
					}
				}
			}
			checkFlushed(t, flushMonStep(m), every)
			if got := impl.FlushMon(every, m); len(got) != 0 {
				t.Errorf("FlushMon(%v, %d) = %v; want none", every, m, got)
			}
			for other := -1; other <= 3; other++ {
				if got := impl.FlushMon(every, other); other != m && !slices.Equal(got, every) {
					t.Errorf("FlushMon(%v, %d) = %v; want all", every, other, got)
				}
			}
		}
	}
}

// TestFlushMonOfNumbersThatAreNoTags expects that no hypervisor, and no number that is none, removes their entries.
func TestFlushMonOfNumbersThatAreNoTags(t *testing.T) {
	var b []impl.Entry
	for i, tag := range numbersAround(20) {
		if tag < 1 || tag > 6 {
			b = append(b, impl.Entry{Tag: tag, Page: i, Host: i % 7, Rights: 1 + i%3})
		}
	}
	for _, m := range numbersAround(20) {
		if got := impl.FlushMon(b, m); !slices.Equal(got, b) {
			t.Errorf("FlushMon of %d removes entries that belong to no guest: %d of %d remain", m, len(got), len(b))
		}
	}
	for i := range b {
		checkFlushesOfMons(t, b[i:min(i+3, len(b))])
		mixed := append(entriesWithTags(1, 4), b[i])
		checkFlushesOfMons(t, append(mixed, entriesWithTags(5, 3)...))
	}
}

// TestFlushMonOfRepeatedEntries keeps each of the repeated entries, or none.
func TestFlushMonOfRepeatedEntries(t *testing.T) {
	for tag := -1; tag <= 7; tag++ {
		e := impl.Entry{Tag: tag, Page: 2, Host: 3, Rights: 1}
		changed := impl.Entry{Tag: tag, Page: 2, Host: 4, Rights: 3}
		for _, b := range [][]impl.Entry{{e, e}, {e, changed}, {changed, e, e}, {e, {Tag: 4}, e, {Tag: 4}, e}, {{Tag: 1}, e, changed, {Tag: 1}}, slices.Repeat([]impl.Entry{e}, 8)} {
			checkFlushesOfMons(t, b)
		}
	}
}

// TestFlushMonLooksAtTagsOnly gives pages, hosts and rights the numbers of the tags.
func TestFlushMonLooksAtTagsOnly(t *testing.T) {
	for m, tags := range tagsOfMons {
		for _, tag := range tags {
			other := wantTag((m+1)%3, 0)
			kept := []impl.Entry{{Tag: other, Page: tag, Host: tag, Rights: tag}, {Tag: 0, Page: tag, Host: 1, Rights: 1}, {Tag: -1, Page: 1, Host: tag, Rights: 1}, {Tag: 7, Page: 1, Host: 1, Rights: tag}, {Tag: other, Page: m, Host: m, Rights: m}}
			if got := checkStepAndBuffer(t, flushMonStep(m), kept); !slices.Equal(got, kept) {
				t.Errorf("FlushMon(%v, %d) = %v; want all", kept, m, got)
			}
			gone := []impl.Entry{{Tag: tag}, {Tag: tag, Page: other, Host: other, Rights: other}, {Tag: tag, Page: -1, Host: -1, Rights: -1}, {Tag: tag, Page: math.MaxInt, Host: math.MinInt, Rights: math.MaxInt}}
			if got := checkStepAndBuffer(t, flushMonStep(m), gone); len(got) != 0 {
				t.Errorf("FlushMon(%v, %d) = %v; want none", gone, m, got)
			}
		}
	}
}

// TestFlushMonOfLongBuffers expects that FlushMon does not shorten a buffer to MaxBuffer.
func TestFlushMonOfLongBuffers(t *testing.T) {
	for _, n := range []int{5, 6, 7, 8, 24, 100, 1000} {
		mixed, one := distinctEntries(n), distinctEntries(n)
		for i := range n {
			mixed[i].Tag, one[i].Tag = i*i%11-1, 4
		}
		for m := -1; m <= 3; m++ {
			checkBufferStep(t, flushMonStep(m), mixed)
			got := checkBufferStep(t, flushMonStep(m), one)
			if m == 1 && len(got) != 0 || m != 1 && len(got) != n {
				t.Errorf("FlushMon of %d leaves %d of %d entries of hypervisor 1", m, len(got), n)
			}
		}
	}
}

// TestFlushMonIsFlushTagForEachTag compares it with chapter 8, and expects that a second flush finds nothing.
func TestFlushMonIsFlushTagForEachTag(t *testing.T) {
	var tags []int
	for i := range 60 {
		tags = append(tags, i*i%9-1)
	}
	for n := range tags {
		b := entriesWithTags(tags[n:]...)
		for m := -1; m <= 3; m++ {
			want := b
			for _, tag := range impl.TagsOf(m) {
				want = impl.FlushTag(want, tag)
			}
			got := impl.FlushMon(b, m)
			if !slices.Equal(got, want) {
				t.Errorf("FlushMon(%v, %d) = %v; FlushTag for each of its tags leaves %v", b, m, got, want)
			}
			if again := impl.FlushMon(got, m); !slices.Equal(again, got) {
				t.Errorf("FlushMon(%v, %d) = %v; want all", got, m, again)
			}
		}
	}
}
