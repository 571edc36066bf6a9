package tests

import (
	"math"
	"slices"
	"testing"

	"loop.example/g00975/impl"
)

// memorySizes lies on both sides of 24, the most pages that MemNew makes.
var memorySizes = []int{0, 1, 2, 3, 8, 23, 24, 25, 26, 48, 60}

// pageLengths lies on both sides of PageCells: a memory that is an argument may have pages of any length.
var pageLengths = []int{0, 1, 3, 4, 5, 9}

// goodValues and badValues lie on both sides of the ends of the range 0 to MaxCell; some bad ones have low bits that would be a value.
var (
	goodValues = []int{0, 1, 50, 98, 99}
	badValues  = []int{100, 101, 199, 1000, 256, 1<<32 + 7, math.MaxInt, math.MaxInt - 1, -1, -2, -99, -100, -1 << 32, 7 - 1<<32, math.MinInt, math.MinInt + 1}
)

// memoryOf returns a memory without equal neighbours, so that a cell in the wrong place is noticed.
func memoryOf(pages, cells int) [][]int {
	m := make([][]int, pages)
	for p := range m {
		m[p] = make([]int, cells)
		for c := range m[p] {
			m[p][c] = 1 + (p*cells+c)%97
		}
	}
	return m
}

// unevenMemory has pages of all lengths, a nil one among them, and values that PageOk rejects.
func unevenMemory() [][]int {
	m := [][]int{nil, {}, {7}, {1, 2, 3, 4}, {-1, 100, math.MaxInt, math.MinInt}, {5, 6, 7, 8, 9}, {0, 0, 0, 0}}
	for p := range 30 {
		m = append(m, make([]int, p%7))
		for c := range p % 7 {
			m[len(m)-1][c] = p + c + 1
		}
	}
	return m
}

// allMemories returns regular memories of all sizes and an uneven one.
func allMemories() [][][]int {
	all := [][][]int{nil, {}, unevenMemory()}
	for _, pages := range memorySizes {
		for _, cells := range pageLengths {
			all = append(all, memoryOf(pages, cells))
		}
	}
	return all
}

// cloneMemory copies a memory without the help of the program.
func cloneMemory(m [][]int) [][]int {
	out := make([][]int, len(m))
	for i := range m {
		out[i] = slices.Clone(m[i])
	}
	return out
}

// equalMemory compares memories without the help of the program.
func equalMemory(a, b [][]int) bool {
	return slices.EqualFunc(a, b, slices.Equal[[]int])
}

// cellsOutside returns indexes that refer to none of n pages or cells.
func cellsOutside(n int) []int {
	return slices.DeleteFunc(indexesOutside(n), func(i int) bool { return !missing(n, i) })
}

// spoilMemory overwrites all memory of the cells, also the capacity behind each page.
func spoilMemory(m [][]int) {
	for _, cells := range m {
		whole := cells[:cap(cells)]
		for i := range whole {
			whole[i] = -77
		}
	}
}

func TestMemoryLimits(t *testing.T) {
	if impl.PageCells != 4 || impl.MaxCell != 99 {
		t.Error("limits differ from chapter 4:", impl.PageCells, impl.MaxCell)
	}
}

func TestPageOkOfLengths(t *testing.T) {
	for n := range 30 {
		if got := impl.PageOk(make([]int, n)); got != (n == 4) {
			t.Errorf("PageOk of %d zeros = %v", n, got)
		}
	}
	if impl.PageOk(nil) || impl.PageOk([]int{1, 2, 3, 4, 5}[:3]) || !impl.PageOk([]int{1, 2, 3, 4, 500}[:4]) {
		t.Error("PageOk counts other cells than those of the slice")
	}
}

func TestPageOkOfValues(t *testing.T) {
	for cell := range 4 {
		for v := -110; v <= 210; v++ {
			page := []int{0, 99, 0, 99}
			page[cell] = v
			if got := impl.PageOk(page); got != (0 <= v && v <= 99) {
				t.Errorf("PageOk(%v) = %v", page, got)
			}
		}
		for _, v := range badValues {
			page := []int{1, 2, 3, 4}
			page[cell] = v
			if impl.PageOk(page) {
				t.Errorf("PageOk(%v) = true", page)
			}
		}
	}
}

func TestMemOkOfSizes(t *testing.T) {
	for _, n := range memorySizes {
		m := memoryOf(n, 4)
		if !impl.MemOk(m, n) {
			t.Errorf("MemOk of %d valid pages = false", n)
		}
		for _, pages := range []int{n - 1, n + 1, -n - 1, n + 24, n + 1<<32, math.MaxInt, math.MinInt} {
			if impl.MemOk(m, pages) {
				t.Errorf("MemOk of %d pages with %d = true", n, pages)
			}
		}
	}
	if !impl.MemOk(nil, 0) || !impl.MemOk([][]int{}, 0) || impl.MemOk(nil, 1) || impl.MemOk(nil, -1) || impl.MemOk([][]int{nil}, 1) || impl.MemOk([][]int{nil}, 0) {
		t.Error("MemOk of a memory without cells")
	}
}

func TestMemOkOfBadPages(t *testing.T) {
	bad := [][]int{nil, {}, {1, 2, 3}, {1, 2, 3, 4, 5}, {0, 0, 0, 100}, {-1, 0, 0, 0}, {0, math.MaxInt, 0, 0}, {0, 0, math.MinInt, 0}}
	for _, n := range memorySizes {
		for p := range n {
			for _, page := range bad {
				m := memoryOf(n, 4)
				m[p] = page
				if impl.MemOk(m, n) {
					t.Errorf("MemOk of %d pages with %v as page %d = true", n, page, p)
				}
			}
		}
	}
}

func TestMemNewIsClamped(t *testing.T) {
	cases := map[int]int{
		math.MinInt: 0, math.MinInt + 24: 0, -1 << 32: 0, 3 - 1<<32: 0, -25: 0, -24: 0, -1: 0, 0: 0, 1: 1, 3: 3, 8: 8, 23: 23, 24: 24,
		25: 24, 26: 24, 48: 24, 1000: 24, 1 << 32: 24, 1<<32 + 3: 24, math.MaxInt: 24,
	}
	for pages, want := range cases {
		got := impl.MemNew(pages)
		if len(got) != want || !impl.MemOk(got, want) {
			t.Errorf("MemNew(%d) has %d pages; want %d valid ones", pages, len(got), want)
		}
		for p, cells := range got {
			if !slices.Equal(cells, []int{0, 0, 0, 0}) {
				t.Errorf("page %d of MemNew(%d) = %v; want 4 zeros", p, pages, cells)
			}
		}
	}
}

func TestMemNewIsNewMemory(t *testing.T) {
	for _, n := range []int{1, 3, 24, 30} {
		first, second := impl.MemNew(n), impl.MemNew(n)
		checkPagesApart(t, "MemNew", first)
		spoilMemory(first)
		for p, cells := range second {
			if !slices.Equal(cells, []int{0, 0, 0, 0}) {
				t.Errorf("page %d of MemNew(%d) changes with another memory: %v", p, n, cells)
			}
		}
		if !equalMemory(impl.MemNew(n), second) {
			t.Errorf("MemNew(%d) keeps what was written to an earlier memory", n)
		}
	}
}

// checkPagesApart fails if writing to a page, to the capacity behind it, or behind its end is seen in another page of m.
func checkPagesApart(t *testing.T, name string, m [][]int) {
	t.Helper()
	for p := range m {
		before := cloneMemory(m)
		spoilMemory(m[p : p+1])
		_ = append(m[p], -78)
		for q := range m {
			if q != p && !slices.Equal(m[q], before[q]) {
				t.Errorf("%s of %d pages: page %d shares memory with page %d", name, len(m), q, p)
			}
		}
		copy(m[p], before[p])
	}
}

// TestCellIsReadBack writes every cell of every memory and reads back all of its cells.
func TestCellIsReadBack(t *testing.T) {
	for _, m := range allMemories() {
		for page := range m {
			for cell := range m[page] {
				checkWritten(t, m, page, cell, goodValues[(page+cell)%len(goodValues)])
				if len(m) <= 8 {
					for _, v := range goodValues {
						checkWritten(t, m, page, cell, v)
					}
				}
			}
		}
	}
}

// checkWritten fails unless WithCell changes the cell, which m has, to v and no other one.
func checkWritten(t *testing.T, m [][]int, page, cell, v int) {
	t.Helper()
	got := impl.WithCell(m, page, cell, v)
	want := cloneMemory(m)
	want[page][cell] = v
	if !equalMemory(got, want) {
		t.Fatalf("WithCell of %d pages at %d, %d with %d = %v; want %v", len(m), page, cell, v, got, want)
	}
	for p := range want {
		for c := range want[p] {
			if read := impl.CellAt(got, p, c); read != want[p][c] {
				t.Errorf("CellAt %d, %d = %d after writing %d to %d, %d; want %d", p, c, read, v, page, cell, want[p][c])
			}
		}
	}
}

// TestCellsWrittenInTurn writes all cells of one memory, in both directions, and expects to read all of them at the end.
func TestCellsWrittenInTurn(t *testing.T) {
	for _, n := range memorySizes {
		want := memoryOf(n, 4)
		up, down := cloneMemory(want), make([][]int, n)
		for p := range n {
			up[p], down[p] = make([]int, 4), make([]int, 4)
		}
		for i := range 4 * n {
			back := 4*n - 1 - i
			up = impl.WithCell(up, i/4, i%4, want[i/4][i%4])
			down = impl.WithCell(down, back/4, back%4, want[back/4][back%4])
		}
		if !equalMemory(up, want) || !equalMemory(down, want) {
			t.Errorf("%d pages written cell by cell = %v and %v; want %v", n, up, down, want)
		}
	}
	twice := impl.WithCell(impl.WithCell(impl.MemNew(2), 1, 3, 99), 1, 3, 0)
	if !equalMemory(twice, impl.MemNew(2)) {
		t.Error("a cell that was written twice:", twice)
	}
}

func TestValueOutOfRange(t *testing.T) {
	for _, m := range allMemories() {
		for page := range m {
			for cell := range m[page] {
				for _, v := range badValues {
					if got := impl.WithCell(m, page, cell, v); !equalMemory(got, m) {
						t.Errorf("WithCell of %d pages at %d, %d with %d is changed: %v", len(m), page, cell, v, got)
					}
				}
			}
		}
	}
	m := impl.WithCell(impl.MemNew(3), 1, 2, 7)
	for v := -300; v <= 400; v++ {
		want := 7
		if 0 <= v && v <= 99 {
			want = v
		}
		if got := impl.CellAt(impl.WithCell(m, 1, 2, v), 1, 2); got != want {
			t.Errorf("cell with 7 after writing %d = %d; want %d", v, got, want)
		}
	}
}

func TestMissingPage(t *testing.T) {
	for _, m := range allMemories() {
		for _, page := range cellsOutside(len(m)) {
			for _, cell := range []int{-1, 0, 3, 4, math.MaxInt, math.MinInt} {
				checkMissing(t, m, page, cell)
			}
			if got := impl.PageAt(m, page); !slices.Equal(got, []int{0, 0, 0, 0}) {
				t.Errorf("PageAt of %d pages at %d = %v; want 4 zeros", len(m), page, got)
			}
			if got := impl.WithPage(m, page, []int{9, 8, 7, 6}); !equalMemory(got, m) {
				t.Errorf("WithPage of %d pages at %d is changed: %v", len(m), page, got)
			}
		}
	}
}

func TestMissingCell(t *testing.T) {
	for _, m := range allMemories() {
		for page := range m {
			for _, cell := range cellsOutside(len(m[page])) {
				checkMissing(t, m, page, cell)
			}
		}
	}
}

// checkMissing fails if the cell, which m does not have, is read as other than 0 or can be written.
func checkMissing(t *testing.T, m [][]int, page, cell int) {
	t.Helper()
	if got := impl.CellAt(m, page, cell); got != 0 {
		t.Errorf("CellAt of %d pages at %d, %d = %d; want 0", len(m), page, cell, got)
	}
	for _, v := range []int{0, 7, 99, 100, -1} {
		if got := impl.WithCell(m, page, cell, v); !equalMemory(got, m) {
			t.Errorf("WithCell of %d pages at %d, %d with %d is changed: %v", len(m), page, cell, v, got)
		}
	}
}

// TestCellInTheSpareCapacity expects the pages and cells behind the end of a slice to be no part of the memory.
func TestCellInTheSpareCapacity(t *testing.T) {
	whole := memoryOf(30, 9)
	for p := range whole {
		whole[p] = whole[p][:p%9]
	}
	for _, n := range []int{0, 3, 24, 29} {
		m := whole[:n]
		for page := range whole {
			for cell := range 9 {
				if page >= n || cell >= len(m[page]) {
					checkMissing(t, m, page, cell)
				}
			}
		}
		for page := n; page < len(whole); page++ {
			if got := impl.PageAt(m, page); !slices.Equal(got, []int{0, 0, 0, 0}) {
				t.Errorf("PageAt of %d pages at %d = %v; want 4 zeros", n, page, got)
			}
		}
	}
}

// TestPageAt expects the cells of a page as they are: neither their number nor their values are checked.
func TestPageAt(t *testing.T) {
	for _, m := range allMemories() {
		for page := range m {
			if got := impl.PageAt(m, page); !slices.Equal(got, m[page]) {
				t.Errorf("PageAt of %d pages at %d = %v; want %v", len(m), page, got, m[page])
			}
		}
	}
}

func TestPageIsReadBack(t *testing.T) {
	for _, m := range allMemories() {
		for page := range m {
			for _, cells := range [][]int{{9, 8, 7, 6}, {0, 0, 0, 0}, {99, 99, 99, 99}, {0, 99, 0, 99}} {
				want := cloneMemory(m)
				want[page] = cells
				got := impl.WithPage(m, page, cells)
				if !equalMemory(got, want) || !slices.Equal(impl.PageAt(got, page), cells) {
					t.Errorf("WithPage of %d pages at %d with %v = %v; want %v", len(m), page, cells, got, want)
				}
			}
		}
	}
}

func TestWithPageOfOtherCells(t *testing.T) {
	bad := [][]int{nil, {}, {1}, {1, 2, 3}, {1, 2, 3, 4, 5}, make([]int, 8), []int{1, 2, 3, 4, 5}[:3]}
	for cell := range 4 {
		for _, v := range badValues {
			cells := []int{1, 2, 3, 4}
			cells[cell] = v
			bad = append(bad, cells)
		}
	}
	for _, m := range allMemories() {
		for page := range m {
			for _, cells := range bad {
				if got := impl.WithPage(m, page, cells); !equalMemory(got, m) {
					t.Errorf("WithPage of %d pages at %d with %v is changed: %v", len(m), page, cells, got)
				}
			}
		}
	}
}

// spareMemory returns a memory with spare capacity behind its pages and behind the cells of each page.
func spareMemory(pages, cells, spare int) (m, behind [][]int) {
	behind = memoryOf(pages+spare, cells+spare)
	whole := make([][]int, pages+spare)
	for p := range whole {
		whole[p] = behind[p][:cells]
	}
	return whole[:pages], behind
}

// checkMemoryApart fails if the call modifies its argument, or if writing to the result or to the argument is seen in the other one.
func checkMemoryApart(t *testing.T, name string, pages, cells, spare int, call func(m [][]int) [][]int) {
	t.Helper()
	m, behind := spareMemory(pages, cells, spare)
	heads, before := slices.Clone(m[:cap(m)]), cloneMemory(behind)
	got := call(m)
	if !equalMemory(behind, before) || !equalMemory(m[:cap(m)], heads) {
		t.Errorf("%s of %d pages of %d cells, spare %d, modified its argument", name, pages, cells, spare)
	}
	result := cloneMemory(got)
	spoilMemory(m[:cap(m)])
	if !equalMemory(got, result) {
		t.Errorf("%s of %d pages of %d cells, spare %d, changes with its argument", name, pages, cells, spare)
	}
	for p := range behind {
		copy(behind[p], before[p])
	}
	checkPagesApart(t, name, got)
	spoilMemory(got)
	for p := range got {
		got[p] = nil
	}
	_ = append(got, []int{-78})
	if !equalMemory(behind, before) || !equalMemory(m[:cap(m)], heads) {
		t.Errorf("writing to %s of %d pages of %d cells, spare %d, changes its argument", name, pages, cells, spare)
	}
}

// TestMemoriesShareNoMemory covers writes that are accepted and that are rejected, and memories with and without spare capacity.
func TestMemoriesShareNoMemory(t *testing.T) {
	for _, pages := range memorySizes {
		for _, cells := range pageLengths {
			for _, spare := range []int{0, 1, 5} {
				for _, page := range []int{-1, 0, pages / 2, pages - 1, pages, math.MaxInt} {
					for _, v := range []int{7, 100} {
						checkMemoryApart(t, "WithCell", pages, cells, spare, func(m [][]int) [][]int { return impl.WithCell(m, page, cells-1, v) })
						checkMemoryApart(t, "WithPage", pages, cells, spare, func(m [][]int) [][]int { return impl.WithPage(m, page, []int{1, 2, 3, v}) })
					}
					checkMemoryApart(t, "WithCell of a missing cell", pages, cells, spare, func(m [][]int) [][]int { return impl.WithCell(m, page, cells, 7) })
					checkMemoryApart(t, "PageAt", pages, cells, spare, func(m [][]int) [][]int { return [][]int{impl.PageAt(m, page)} })
				}
			}
		}
	}
}

// TestWithPageCopiesTheCells expects the page that was given to stay apart from the result, also where it is a page of the memory itself.
func TestWithPageCopiesTheCells(t *testing.T) {
	whole := []int{1, 2, 3, 4, 5, 6}
	for page := -1; page <= 3; page++ {
		got := impl.WithPage(impl.MemNew(3), page, whole[:4])
		result := cloneMemory(got)
		spoilMemory([][]int{whole})
		if !equalMemory(got, result) {
			t.Errorf("WithPage at %d changes with its cells", page)
		}
		copy(whole, []int{1, 2, 3, 4, 5, 6})
		spoilMemory(got)
		if !slices.Equal(whole, []int{1, 2, 3, 4, 5, 6}) {
			t.Errorf("writing to WithPage at %d changes its cells: %v", page, whole)
		}
	}
	m := memoryOf(3, 4)
	got := impl.WithPage(m, 0, m[2])
	if !slices.Equal(got[0], m[2]) || !slices.Equal(got[2], m[2]) {
		t.Error("WithPage with a page of the memory:", got)
	}
	checkPagesApart(t, "WithPage with a page of the memory", got)
}

// TestSharedPagesAreParted gives a memory in which one slice is several pages: a write changes one page alone.
func TestSharedPagesAreParted(t *testing.T) {
	page := []int{1, 2, 3, 4}
	m := [][]int{page, page, page}
	got := impl.WithCell(m, 1, 0, 9)
	if !equalMemory(got, [][]int{{1, 2, 3, 4}, {9, 2, 3, 4}, {1, 2, 3, 4}}) || page[0] != 1 {
		t.Error("WithCell of a memory with equal pages:", got)
	}
	checkPagesApart(t, "WithCell of a memory with equal pages", got)
	checkPagesApart(t, "rejected WithCell of a memory with equal pages", impl.WithCell(m, 1, 0, 100))
	checkPagesApart(t, "rejected WithPage of a memory with equal pages", impl.WithPage(m, 3, page))
}

func TestMissingPageIsNewMemory(t *testing.T) {
	first := impl.PageAt(nil, 0)
	spoilMemory([][]int{first})
	if got := impl.PageAt(nil, 0); !slices.Equal(got, []int{0, 0, 0, 0}) {
		t.Error("PageAt of a missing page keeps what was written to an earlier one:", got)
	}
}

func TestMemoryReadersModifyNothing(t *testing.T) {
	for _, pages := range memorySizes {
		for _, cells := range pageLengths {
			m, behind := spareMemory(pages, cells, 3)
			heads, before := slices.Clone(m[:cap(m)]), cloneMemory(behind)
			impl.MemOk(m, pages)
			impl.SameMem(m, memoryOf(pages, cells))
			impl.SameMem(m, m)
			for page := range m {
				impl.PageOk(m[page])
				impl.PageAt(m, page)
				impl.CellAt(m, page, 0)
			}
			if !equalMemory(behind, before) || !equalMemory(m[:cap(m)], heads) {
				t.Errorf("a memory of %d pages of %d cells was modified by reading it", pages, cells)
			}
		}
	}
}

func TestSameMem(t *testing.T) {
	for _, m := range allMemories() {
		if !impl.SameMem(m, m) || !impl.SameMem(m, cloneMemory(m)) {
			t.Errorf("SameMem of equal memories of %d pages = false", len(m))
		}
		checkMemoriesDiffer(t, m, append(cloneMemory(m), nil))
		checkMemoriesDiffer(t, m, append(cloneMemory(m), []int{0, 0, 0, 0}))
		for page := range m {
			longer := cloneMemory(m)
			longer[page] = append(longer[page], 0)
			checkMemoriesDiffer(t, m, longer)
			for cell := range m[page] {
				other := cloneMemory(m)
				other[page][cell]++
				checkMemoriesDiffer(t, m, other)
			}
		}
	}
}

func TestSameMemOfEdges(t *testing.T) {
	if !impl.SameMem(nil, nil) || !impl.SameMem(nil, [][]int{}) || !impl.SameMem([][]int{}, nil) || !impl.SameMem([][]int{nil}, [][]int{{}}) {
		t.Error("SameMem of memories without cells = false")
	}
	checkMemoriesDiffer(t, [][]int{{1, 2}, {3, 4}}, [][]int{{3, 4}, {1, 2}})
	checkMemoriesDiffer(t, [][]int{{1, 2}, {3, 4}}, [][]int{{2, 1}, {3, 4}})
	checkMemoriesDiffer(t, [][]int{{1, 2}, {3, 4}}, [][]int{{1, 2, 3}, {4}})
	checkMemoriesDiffer(t, [][]int{{1, 2, 3, 4}}, [][]int{{1, 2}, {3, 4}})
	checkMemoriesDiffer(t, [][]int{{math.MaxInt}}, [][]int{{-1}})
	checkMemoriesDiffer(t, [][]int{{1 << 32}}, [][]int{{0}})
}

// checkMemoriesDiffer fails if SameMem takes the memories as equal, in either order.
func checkMemoriesDiffer(t *testing.T, a, b [][]int) {
	t.Helper()
	if impl.SameMem(a, b) || impl.SameMem(b, a) {
		t.Errorf("SameMem(%v, %v) = true", a, b)
	}
}
