package tlb_test

import (
	"math"
	"math/big"
	"slices"
	"testing"

	"wayleave/api"
	"wayleave/tlb"
)

const last = api.Pages - 1

// farOff are numbers that are neither a page, nor a size, nor rights.
var farOff = []int{math.MinInt, math.MinInt + 1, math.MinInt + 64, -1 << 32, -api.Pages, -64, -8, -2, -1, api.Pages, api.Pages + 1, api.Pages + 8, api.Pages + 64, 1 << 20, 1 << 32, 1<<32 + 8, math.MaxInt - 63, math.MaxInt - 1, math.MaxInt}

// spans tell how many pages a mapping of each size has, as the chapter of pages says it.
var spans = []int{api.Small: 1, api.Large: 8, api.Huge: 64}

// line tells the line of the mapping of a size that has the page; its frame and rights tell pages apart.
func line(p, size int, dirty bool) tlb.Line {
	p -= p % spans[size]
	return tlb.Line{M: api.Map{Page: p, Size: size, Frame: 128 * p, Rights: p % 8}, Dirty: dirty}
}

// row tells that many lines that do not meet, of one page each, from a page on; every other one is Dirty.
func row(from, count int) []tlb.Line {
	var all []tlb.Line
	for i := range count {
		all = append(all, line(from+i, api.Small, i%2 == 0))
	}
	return all
}

// kept tells a new TLB for which these lines were put, one behind the other.
func kept(t *testing.T, lines ...tlb.Line) *tlb.TLB {
	t.Helper()
	c := tlb.New()
	for _, l := range lines {
		mustPut(t, c, l, true)
	}
	return c
}

func mustPut(t *testing.T, c *tlb.TLB, l tlb.Line, want bool) {
	t.Helper()
	if got := c.Put(l); got != want {
		t.Fatalf("Put(%v): %v, want %v", l, got, want)
	}
}

func mustDrop(t *testing.T, c *tlb.TLB, m api.Map, want int) {
	t.Helper()
	if got := c.Drop(m); got != want {
		t.Fatalf("Drop(%v): %d, want %d", m, got, want)
	}
}

func mustEvict(t *testing.T, c *tlb.TLB, want bool) {
	t.Helper()
	if got := c.Evict(); got != want {
		t.Fatalf("Evict: %v, want %v", got, want)
	}
}

func mustFind(t *testing.T, c *tlb.TLB, p int, want tlb.Line, wantFound bool) {
	t.Helper()
	if l, found := c.Find(p); l != want || found != wantFound {
		t.Fatalf("Find(%d): %v, %v, want %v, %v", p, l, found, want, wantFound)
	}
}

func mustSameList(t *testing.T, what string, got, want []tlb.Line) {
	t.Helper()
	if !slices.Equal(got, want) {
		t.Fatalf("%s: %v, want %v", what, got, want)
	}
}

// mustBe fails unless a TLB tells in all its ways that these lines, the oldest one first, are kept, and no others.
func mustBe(t *testing.T, c *tlb.TLB, want ...tlb.Line) {
	t.Helper()
	mustSameList(t, "List", c.List(), want)
	var of [api.Pages]*tlb.Line
	for i, l := range want {
		for p := l.M.Page; p < l.M.Page+spans[l.M.Size]; p++ {
			of[p] = &want[i]
		}
	}
	for p, l := range of {
		if l == nil {
			mustFind(t, c, p, tlb.Line{}, false)
			continue
		}
		mustFind(t, c, p, *l, true)
	}
	for _, p := range farOff {
		mustFind(t, c, p, tlb.Line{}, false)
	}
}

// meets says what the chapter of pages says of Meet, with numbers that are never too great.
func meets(a, b api.Map) bool {
	return has(a, b.Page) || has(b, a.Page)
}

func has(m api.Map, p int) bool {
	if m.Size < 0 || m.Size >= len(spans) {
		return false
	}
	first, behind := big.NewInt(int64(m.Page)), big.NewInt(int64(spans[m.Size]))
	behind.Add(behind, first)
	asked := big.NewInt(int64(p))
	return asked.Cmp(first) >= 0 && asked.Cmp(behind) < 0
}

// noMappings tells what is no mapping, in each way that page.Check knows, by the code that it tells.
func noMappings() map[int][]api.Map {
	wrong := map[int][]api.Map{
		api.ErrRange: {
			{Frame: -1}, {Frame: api.MaxData}, {Size: api.Huge, Frame: api.MaxData}, {Frame: math.MinInt}, {Frame: math.MaxInt},
			{Rights: -1}, {Rights: 8}, {Rights: 1 << 32}, {Rights: math.MinInt}, {Rights: math.MaxInt},
		},
		api.ErrAlign: {
			{Page: 1, Size: api.Large}, {Page: 4, Size: api.Large}, {Page: 9, Size: api.Large}, {Page: last, Size: api.Large},
			{Page: 8, Size: api.Huge}, {Page: 65, Size: api.Huge}, {Page: last, Size: api.Huge}, {Page: api.Pages - 8, Size: api.Huge},
			{Page: 8, Size: api.Large, Frame: 4}, {Page: 64, Size: api.Huge, Frame: 8}, {Size: api.Huge, Frame: api.MaxData - 1},
		},
	}
	for _, n := range append([]int{3, 4, 64}, farOff...) {
		wrong[api.ErrKind] = append(wrong[api.ErrKind], api.Map{Size: n}, api.Map{Page: 9, Size: n}, api.Map{Page: n, Size: n, Frame: n, Rights: n})
	}
	for _, n := range farOff {
		for size := range spans {
			wrong[api.ErrRange] = append(wrong[api.ErrRange], api.Map{Page: n, Size: size})
		}
	}
	return wrong
}

// orders tells all orders of some lines.
func orders(lines []tlb.Line) [][]tlb.Line {
	if len(lines) == 0 {
		return [][]tlb.Line{nil}
	}
	var all [][]tlb.Line
	for i := range lines {
		rest := slices.Delete(slices.Clone(lines), i, i+1)
		for _, order := range orders(rest) {
			all = append(all, append([]tlb.Line{lines[i]}, order...))
		}
	}
	return all
}
