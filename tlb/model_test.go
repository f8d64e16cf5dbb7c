package tlb_test

import (
	"slices"
	"testing"

	"wayleave/api"
	"wayleave/page"
	"wayleave/tlb"
)

// model says what the chapter says, by the number of the Put that each line came with: the least one is the oldest.
type model struct {
	puts int
	by   map[int]tlb.Line
}

func newModel() *model {
	return &model{by: map[int]tlb.Line{}}
}

func (m *model) put(l tlb.Line) bool {
	if page.Check(l.M) != 0 {
		return false
	}
	m.drop(l.M)
	if len(m.by) == 6 {
		m.evict()
	}
	m.puts++
	m.by[m.puts] = l
	return true
}

func (m *model) drop(x api.Map) int {
	count := 0
	for _, n := range m.numbers() {
		if meets(m.by[n].M, x) {
			delete(m.by, n)
			count++
		}
	}
	return count
}

func (m *model) evict() bool {
	numbers := m.numbers()
	if len(numbers) == 0 {
		return false
	}
	delete(m.by, numbers[0])
	return true
}

func (m *model) find(p int) (tlb.Line, bool) {
	for _, l := range m.by {
		if has(l.M, p) {
			return l, true
		}
	}
	return tlb.Line{}, false
}

func (m *model) list() []tlb.Line {
	var all []tlb.Line
	for _, n := range m.numbers() {
		all = append(all, m.by[n])
	}
	return all
}

func (m *model) numbers() []int {
	var all []int
	for n := range m.by {
		all = append(all, n)
	}
	slices.Sort(all)
	return all
}

// asked is what may be asked of a TLB: 0 is Put of l, 1 Drop of its mapping, 2 Evict, 3 Find of its page.
type asked struct {
	kind int
	l    tlb.Line
}

// mustAgree asks a TLB and the model the same, and fails unless they answer the same and keep the same.
func mustAgree(t *testing.T, c *tlb.TLB, m *model, x asked) {
	t.Helper()
	switch x.kind {
	case 0:
		mustPut(t, c, x.l, m.put(x.l))
	case 1:
		mustDrop(t, c, x.l.M, m.drop(x.l.M))
	case 2:
		mustEvict(t, c, m.evict())
	case 3:
		want, found := m.find(x.l.M.Page)
		mustFind(t, c, x.l.M.Page, want, found)
	}
	mustSameList(t, "List", c.List(), m.list())
}

// TestEveryOrder goes through all orders of three calls out of many, on none, on some and on MaxTLB lines.
func TestEveryOrder(t *testing.T) {
	calls := []asked{
		{0, line(64, api.Huge, true)},
		{0, line(64, api.Large, false)},
		{0, line(72, api.Large, true)},
		{0, line(71, api.Small, false)},
		{0, line(71, api.Small, true)},
		{0, line(63, api.Small, true)},
		{0, line(128, api.Small, false)},
		{0, tlb.Line{M: api.Map{Page: 71, Size: api.Large}}},
		{0, tlb.Line{M: api.Map{Page: 64, Size: 3}, Dirty: true}},
		{1, line(63, api.Small, false)},
		{1, line(71, api.Small, false)},
		{1, line(64, api.Huge, false)},
		{1, tlb.Line{M: api.Map{Page: 60, Size: api.Large}}},
		{2, tlb.Line{}},
	}
	before := [][]tlb.Line{
		nil,
		{line(71, api.Small, true)},
		{line(128, api.Small, true), line(64, api.Large, false), line(72, api.Small, true)},
		row(63, api.MaxTLB-1),
		row(63, api.MaxTLB),
		row(67, api.MaxTLB),
		{line(128, api.Huge, true), line(64, api.Small, false), line(63, api.Small, true), line(72, api.Large, false), line(71, api.Small, true), line(56, api.Small, true)},
	}
	count := len(calls)
	for _, lines := range before {
		for order := range count * count * count {
			c, m := kept(t, lines...), newModel()
			for _, l := range lines {
				m.put(l)
			}
			for rest, n := order, 0; n < 3; rest, n = rest/count, n+1 {
				mustAgree(t, c, m, calls[rest%count])
			}
			for _, p := range []int{-1, 62, 63, 64, 70, 71, 72, 79, 80, 127, 128, 129} {
				mustAgree(t, c, m, asked{3, tlb.Line{M: api.Map{Page: p}}})
			}
		}
	}
}

// TestLongRuns goes on for long with calls of every kind, by a fixed rule; lists of before stay as they were.
func TestLongRuns(t *testing.T) {
	// Some runs keep to few pages, so that mappings often meet; all go beyond the first page or the last.
	for seed, r := range []struct{ low, end int }{{-1, 20}, {-1, 140}, {api.Pages - 20, api.Pages + 1}, {api.Pages - 140, api.Pages + 1}, {-1, api.Pages + 1}} {
		c, m := tlb.New(), newModel()
		state := uint64(seed + 1)
		below := func(end int) int {
			state = state*6364136223846793005 + 1442695040888963407
			return int(state>>33) % end
		}
		for range 20 {
			listed, was := c.List(), m.list()
			for range 200 {
				x := api.Map{Page: r.low + below(r.end-r.low), Size: below(3), Frame: below(1000) * 64, Rights: below(9)}
				if below(8) > 0 {
					// Few pages are a mapping's first one: most calls are to name one that is.
					x.Page -= x.Page % spans[x.Size]
				}
				// Puts are to outweigh what takes lines away, so that MaxTLB are often kept.
				kind := []int{0, 0, 0, 0, 0, 1, 2, 3}[below(8)]
				mustAgree(t, c, m, asked{kind, tlb.Line{M: x, Dirty: below(2) > 0}})
			}
			mustBe(t, c, m.list()...)
			mustSameList(t, "a list of before", listed, was)
		}
	}
}
