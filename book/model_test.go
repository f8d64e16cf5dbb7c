package book_test

import (
	"testing"

	"wayleave/api"
	"wayleave/book"
	"wayleave/page"
)

// model says what the chapter says, page by page: a page has the mapping that stands there, or nil.
type model [api.Pages]*api.Map

func (m *model) add(x api.Map) int {
	if code := page.Check(x); code != 0 {
		return code
	}
	for p := x.Page; p < x.Page+spans[x.Size]; p++ {
		if m[p] != nil {
			return api.ErrThere
		}
	}
	for p := x.Page; p < x.Page+spans[x.Size]; p++ {
		m[p] = &x
	}
	return 0
}

func (m *model) drop(p int) (api.Map, int) {
	if p < 0 || p >= api.Pages {
		return api.Map{}, api.ErrRange
	}
	x := m[p]
	if x == nil {
		return api.Map{}, api.ErrNone
	}
	for q := x.Page; q < x.Page+spans[x.Size]; q++ {
		m[q] = nil
	}
	return *x, 0
}

func (m *model) protect(p, rights int) (api.Map, int) {
	if p < 0 || p >= api.Pages || rights < 0 || rights > 7 {
		return api.Map{}, api.ErrRange
	}
	x, code := m.drop(p)
	if code != 0 {
		return api.Map{}, code
	}
	x.Rights = rights
	return x, m.add(x)
}

func (m *model) list() []api.Map {
	var all []api.Map
	for p, x := range m {
		if x != nil && x.Page == p {
			all = append(all, *x)
		}
	}
	return all
}

// asked is what may be asked of a book: 0 is Add of m, 1 Drop, 2 Protect of its page and rights.
type asked struct {
	kind int
	m    api.Map
}

// mustAgree asks a book and the model the same, and fails unless they answer the same.
func mustAgree(t *testing.T, b *book.Book, m *model, x asked) {
	t.Helper()
	switch x.kind {
	case 0:
		mustAdd(t, b, x.m, m.add(x.m))
	case 1:
		want, code := m.drop(x.m.Page)
		mustDrop(t, b, x.m.Page, want, code)
	case 2:
		want, code := m.protect(x.m.Page, x.m.Rights)
		mustProtect(t, b, x.m.Page, x.m.Rights, want, code)
	}
}

// TestEveryOrder goes through all orders of four calls out of twelve, on mappings that meet and that do not.
func TestEveryOrder(t *testing.T) {
	calls := []asked{
		{0, api.Map{Page: 64, Size: api.Huge, Frame: 64, Rights: 1}},
		{0, api.Map{Page: 64, Size: api.Large, Frame: 8, Rights: 2}},
		{0, api.Map{Page: 72, Size: api.Large, Frame: 16, Rights: 3}},
		{0, api.Map{Page: 71, Frame: 3, Rights: 4}},
		{0, api.Map{Page: 63, Frame: 4, Rights: 5}},
		{0, api.Map{Page: 128, Frame: 5, Rights: 6}},
		{1, api.Map{Page: 63}},
		{1, api.Map{Page: 71}},
		{1, api.Map{Page: 127}},
		{2, api.Map{Page: 71, Rights: 0}},
		{2, api.Map{Page: 128, Rights: 7}},
		{2, api.Map{Page: 64, Rights: 7}},
	}
	count := len(calls)
	for order := range count * count * count * count {
		b, m := book.New(), &model{}
		for rest, n := order, 0; n < 4; rest, n = rest/count, n+1 {
			mustAgree(t, b, m, calls[rest%count])
		}
		for p := 62; p < 130; p++ {
			want, mapped := api.Map{}, m[p] != nil
			if mapped {
				want = *m[p]
			}
			mustFind(t, b, p, want, mapped)
		}
	}
}

// TestLongRuns goes on for long with calls of every kind, by a fixed rule; copies and lists of before stay as they were.
func TestLongRuns(t *testing.T) {
	// Some runs keep to few pages, so that mappings often meet; all go by one page beyond the first or the last.
	for seed, c := range []struct{ low, end int }{{-1, 20}, {-1, 140}, {api.Pages - 20, api.Pages + 1}, {api.Pages - 140, api.Pages + 1}, {-1, api.Pages + 1}} {
		b, m := book.New(), &model{}
		state := uint64(seed + 1)
		below := func(end int) int {
			state = state*6364136223846793005 + 1442695040888963407
			return int(state>>33) % end
		}
		for range 10 {
			copied, listed, was := b.Copy(), b.List(), m.list()
			for range 300 {
				x := api.Map{Page: c.low + below(c.end-c.low), Size: below(3), Frame: below(1000) * 64, Rights: below(9)}
				if below(8) > 0 {
					// Few pages are a mapping's first one: most calls are to name one that is.
					x.Page -= x.Page % spans[x.Size]
				}
				mustAgree(t, b, m, asked{below(4) % 3, x})
			}
			mustBe(t, b, m.list()...)
			mustSameList(t, "a list of before", listed, was)
			mustBe(t, copied, was...)
		}
	}
}
