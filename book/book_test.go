package book_test

import (
	"fmt"
	"math"
	"slices"
	"testing"

	"wayleave/api"
	"wayleave/book"
	"wayleave/page"
)

const last = api.Pages - 1

// farOff are numbers that are neither a page, nor a size, nor rights.
var farOff = []int{math.MinInt, math.MinInt + 1, -1 << 32, -api.Pages, -64, -8, -2, -1, api.Pages, api.Pages + 1, api.Pages + 8, 1 << 20, 1 << 32, 1<<32 + 8, math.MaxInt - 1, math.MaxInt}

// spans tell how many pages a mapping of each size has, as the chapter of pages says it.
var spans = []int{api.Small: 1, api.Large: 8, api.Huge: 64}

// three are mappings of each size that lie side by side; ahead of them and behind them nothing is mapped.
var three = []api.Map{
	{Page: 64, Size: api.Huge, Frame: 128, Rights: 7},
	{Page: 128, Size: api.Large, Frame: 8, Rights: 2},
	{Page: 136, Size: api.Small, Frame: 5, Rights: 1},
}

// bookOf tells a new book of these mappings.
func bookOf(t *testing.T, maps ...api.Map) *book.Book {
	t.Helper()
	b := book.New()
	for _, m := range maps {
		mustAdd(t, b, m, 0)
	}
	return b
}

func mustAdd(t *testing.T, b *book.Book, m api.Map, want int) {
	t.Helper()
	if code := b.Add(m); code != want {
		t.Fatalf("Add(%v): %d, want %d", m, code, want)
	}
}

func mustDrop(t *testing.T, b *book.Book, p int, want api.Map, wantCode int) {
	t.Helper()
	if m, code := b.Drop(p); m != want || code != wantCode {
		t.Fatalf("Drop(%d): %v, %d, want %v, %d", p, m, code, want, wantCode)
	}
}

func mustProtect(t *testing.T, b *book.Book, p, rights int, want api.Map, wantCode int) {
	t.Helper()
	if m, code := b.Protect(p, rights); m != want || code != wantCode {
		t.Fatalf("Protect(%d, %d): %v, %d, want %v, %d", p, rights, m, code, want, wantCode)
	}
}

func mustFind(t *testing.T, b *book.Book, p int, want api.Map, wantFound bool) {
	t.Helper()
	if m, found := b.Find(p); m != want || found != wantFound {
		t.Fatalf("Find(%d): %v, %v, want %v, %v", p, m, found, want, wantFound)
	}
}

func mustAnswer(t *testing.T, b *book.Book, a api.Access, want api.Answer) {
	t.Helper()
	if got := b.Answer(a); got != want {
		t.Fatalf("Answer(%v): %v, want %v", a, got, want)
	}
}

func mustSameList(t *testing.T, what string, got, want []api.Map) {
	t.Helper()
	if !slices.Equal(got, want) {
		t.Fatalf("%s: %v, want %v", what, got, want)
	}
}

// mustBe fails unless a book tells in all its ways that these mappings, rising, are its own, and no others.
func mustBe(t *testing.T, b *book.Book, want ...api.Map) {
	t.Helper()
	mustSameList(t, "List", b.List(), want)
	for p, i := 0, 0; p < api.Pages; p++ {
		for i < len(want) && want[i].Page+spans[want[i].Size] <= p {
			i++
		}
		a := api.Access{Page: p}
		if i == len(want) || want[i].Page > p {
			mustFind(t, b, p, api.Map{}, false)
			mustAnswer(t, b, a, api.Answer{End: api.NotMapped})
			continue
		}
		mustFind(t, b, p, want[i], true)
		mustAnswer(t, b, a, api.Answer{End: api.Done, Frame: want[i].Frame + p - want[i].Page, Rights: want[i].Rights})
	}
}

// orders tells all orders of some mappings.
func orders(maps []api.Map) [][]api.Map {
	if len(maps) == 0 {
		return [][]api.Map{nil}
	}
	var all [][]api.Map
	for i := range maps {
		rest := slices.Delete(slices.Clone(maps), i, i+1)
		for _, order := range orders(rest) {
			all = append(all, append([]api.Map{maps[i]}, order...))
		}
	}
	return all
}

func TestNew(t *testing.T) {
	b := book.New()
	if b == nil {
		t.Fatal("New: nil")
	}
	mustBe(t, b)
	for p := range api.Pages {
		mustDrop(t, b, p, api.Map{}, api.ErrNone)
		mustProtect(t, b, p, 7, api.Map{}, api.ErrNone)
	}
	mustBe(t, b)
	mustBe(t, b.Copy())
}

func TestAddOne(t *testing.T) {
	for size, span := range spans {
		for _, p := range []int{0, span, 1024, 4032, api.Pages - span} {
			for _, frame := range []int{0, span, api.MaxData - span} {
				m := api.Map{Page: p - p%span, Size: size, Frame: frame, Rights: 5}
				mustBe(t, bookOf(t, m), m)
			}
		}
	}
}

func TestAddRights(t *testing.T) {
	for rights := range 8 {
		m := api.Map{Page: 3, Frame: 9, Rights: rights}
		mustBe(t, bookOf(t, m), m)
	}
}

// wrongMaps are no mappings; where several codes are so of one, the first of them stands there.
func wrongMaps() map[api.Map]int {
	wrong := map[api.Map]int{
		{Page: 1, Size: api.Large}:                          api.ErrAlign,
		{Page: last, Size: api.Large}:                       api.ErrAlign,
		{Page: 8, Size: api.Huge}:                           api.ErrAlign,
		{Page: 8, Size: api.Large, Frame: 4}:                api.ErrAlign,
		{Page: 64, Size: api.Huge, Frame: 8}:                api.ErrAlign,
		{Page: 64, Size: api.Huge, Frame: api.MaxData - 1}:  api.ErrAlign,
		{Page: 65, Size: api.Huge, Rights: 8}:               api.ErrRange,
		{Page: 65, Size: 3, Rights: 8}:                      api.ErrKind,
		{Page: api.Pages, Size: -1, Frame: -1}:              api.ErrKind,
		{Page: 64, Frame: api.MaxData}:                      api.ErrRange,
		{Page: 64, Size: api.Huge, Frame: api.MaxData}:      api.ErrRange,
		{Page: 64, Rights: 8}:                               api.ErrRange,
		{Page: 128, Size: api.Large, Frame: 1, Rights: -1}:  api.ErrRange,
		{Page: api.Pages, Size: api.Large, Frame: 1}:        api.ErrRange,
		{Page: -8, Size: api.Large, Frame: 1}:               api.ErrRange,
		{Page: 64, Size: 3}:                                 api.ErrKind,
		{Page: math.MaxInt, Size: math.MaxInt, Frame: -1}:   api.ErrKind,
		{Page: math.MinInt, Size: math.MinInt, Rights: 100}: api.ErrKind,
	}
	for _, n := range farOff {
		wrong[api.Map{Page: 64, Size: n}] = api.ErrKind
		wrong[api.Map{Page: n, Rights: 1}] = api.ErrRange
		wrong[api.Map{Page: n, Size: api.Large}] = api.ErrRange
		wrong[api.Map{Page: n, Size: api.Huge}] = api.ErrRange
		wrong[api.Map{Page: 64, Rights: n}] = api.ErrRange
		if n < 0 || n >= api.MaxData {
			wrong[api.Map{Page: 64, Frame: n}] = api.ErrRange
		}
	}
	return wrong
}

// What is no mapping is told by page.Check's code, even where something is mapped.
func TestAddOfNoMapping(t *testing.T) {
	empty, some := book.New(), bookOf(t, three...)
	for m, code := range wrongMaps() {
		mustAdd(t, empty, m, code)
		mustAdd(t, some, m, code)
	}
	mustBe(t, empty)
	mustBe(t, some, three...)
}

func TestAddThere(t *testing.T) {
	large := api.Map{Page: 72, Size: api.Large, Frame: 80, Rights: 3}
	for _, c := range []struct {
		what string
		m    api.Map
		code int
	}{
		{"the same", large, api.ErrThere},
		{"the same pages", api.Map{Page: 72, Size: api.Large}, api.ErrThere},
		{"its first page", api.Map{Page: 72}, api.ErrThere},
		{"one within", api.Map{Page: 75}, api.ErrThere},
		{"its last page", api.Map{Page: 79}, api.ErrThere},
		{"around it", api.Map{Page: 64, Size: api.Huge}, api.ErrThere},
		{"the page ahead", api.Map{Page: 71}, 0},
		{"the page behind", api.Map{Page: 80}, 0},
		{"the eight ahead", api.Map{Page: 64, Size: api.Large}, 0},
		{"the eight behind", api.Map{Page: 80, Size: api.Large}, 0},
		{"the sixty-four ahead", api.Map{Page: 0, Size: api.Huge}, 0},
		{"the sixty-four behind", api.Map{Page: 128, Size: api.Huge}, 0},
		{"the first page", api.Map{}, 0},
		{"the last page", api.Map{Page: last}, 0},
	} {
		t.Run(c.what, func(t *testing.T) {
			b, want := bookOf(t, large), []api.Map{large}
			mustAdd(t, b, c.m, c.code)
			if c.code == 0 {
				want = append(want, c.m)
				slices.SortFunc(want, func(x, y api.Map) int { return x.Page - y.Page })
			}
			mustBe(t, b, want...)
		})
	}
}

// Every two mappings near the first and the last pages: the second one is added if they have no page in common.
func TestAddEveryTwo(t *testing.T) {
	var maps []api.Map
	for size, span := range spans {
		for p := 0; p < api.Pages; p += span {
			if p < 144 || p >= api.Pages-72 {
				maps = append(maps, api.Map{Page: p, Size: size})
			}
		}
	}
	for _, x := range maps {
		for _, y := range maps {
			b, want, code := bookOf(t, x), []api.Map{x}, api.ErrThere
			switch {
			case x.Page+spans[x.Size] <= y.Page:
				want, code = []api.Map{x, y}, 0
			case y.Page+spans[y.Size] <= x.Page:
				want, code = []api.Map{y, x}, 0
			}
			mustAdd(t, b, y, code)
			mustSameList(t, "List", b.List(), want)
		}
	}
}

// One of sixty-four pages meets many mappings, or one of them alone, wherever that one lies.
func TestAddAroundMany(t *testing.T) {
	huge := api.Map{Page: 64, Size: api.Huge, Frame: 64}
	for p := 64; p < 128; p++ {
		mustAdd(t, bookOf(t, api.Map{Page: p}), huge, api.ErrThere)
		mustAdd(t, bookOf(t, api.Map{Page: 63}, api.Map{Page: p}, api.Map{Page: 128}), huge, api.ErrThere)
	}
	b := bookOf(t, api.Map{Page: 63}, api.Map{Page: 128})
	for p := 64; p < 128; p++ {
		mustAdd(t, b, api.Map{Page: p}, 0)
	}
	mustAdd(t, b, huge, api.ErrThere)
	for p := 64; p < 128; p++ {
		mustAdd(t, b, huge, api.ErrThere)
		mustDrop(t, b, p, api.Map{Page: p}, 0)
	}
	mustAdd(t, b, huge, 0)
	mustBe(t, b, api.Map{Page: 63}, huge, api.Map{Page: 128})
}

func TestListRises(t *testing.T) {
	maps := []api.Map{{Page: 0, Frame: 9}, three[0], three[1], three[2], {Page: last, Frame: 1}}
	for _, order := range orders(maps) {
		mustSameList(t, fmt.Sprint("List behind ", order), bookOf(t, order...).List(), maps)
	}
	mustBe(t, bookOf(t, maps...), maps...)
}

func TestDrop(t *testing.T) {
	for i, m := range three {
		for p := m.Page; p < m.Page+spans[m.Size]; p++ {
			b := bookOf(t, three...)
			mustDrop(t, b, p, m, 0)
			mustSameList(t, fmt.Sprint("List behind Drop of ", p), b.List(), slices.Delete(slices.Clone(three), i, i+1))
			mustDrop(t, b, p, api.Map{}, api.ErrNone)
		}
	}
}

// The first, a middle and the last mapping go, in every order; what is left is told rightly each time, and each may come again.
func TestDropInEveryOrder(t *testing.T) {
	for _, order := range orders(three) {
		b, left := bookOf(t, three...), slices.Clone(three)
		for _, m := range order {
			mustDrop(t, b, m.Page+spans[m.Size]-1, m, 0)
			left = slices.DeleteFunc(left, func(x api.Map) bool { return x == m })
			mustBe(t, b, left...)
		}
		for _, m := range order {
			mustAdd(t, b, m, 0)
		}
		mustBe(t, b, three...)
	}
}

func TestDropCodes(t *testing.T) {
	empty, some := book.New(), bookOf(t, three...)
	for _, p := range farOff {
		mustDrop(t, empty, p, api.Map{}, api.ErrRange)
		mustDrop(t, some, p, api.Map{}, api.ErrRange)
	}
	for _, p := range []int{0, 1, 63, 137, 200, last} {
		mustDrop(t, empty, p, api.Map{}, api.ErrNone)
		mustDrop(t, some, p, api.Map{}, api.ErrNone)
	}
	mustBe(t, empty)
	mustBe(t, some, three...)
}

func TestDropAtTheEnds(t *testing.T) {
	for size, span := range spans {
		low, high := api.Map{Size: size, Rights: 1}, api.Map{Page: api.Pages - span, Size: size, Rights: 2}
		b := bookOf(t, low, high)
		mustDrop(t, b, api.Pages, api.Map{}, api.ErrRange)
		mustDrop(t, b, -1, api.Map{}, api.ErrRange)
		mustDrop(t, b, last, high, 0)
		mustDrop(t, b, last, api.Map{}, api.ErrNone)
		mustBe(t, b, low)
		mustDrop(t, b, 0, low, 0)
		mustDrop(t, b, 0, api.Map{}, api.ErrNone)
		mustBe(t, b)
	}
}

func TestProtect(t *testing.T) {
	for i, m := range three {
		for p := m.Page; p < m.Page+spans[m.Size]; p++ {
			b, want := bookOf(t, three...), slices.Clone(three)
			for rights := range 8 {
				want[i].Rights = rights
				mustProtect(t, b, p, rights, want[i], 0)
				mustSameList(t, fmt.Sprint("List behind Protect of ", p), b.List(), want)
				mustFind(t, b, p, want[i], true)
			}
		}
	}
}

func TestProtectFromAllRightsToAll(t *testing.T) {
	for from := range 8 {
		for to := range 8 {
			m := api.Map{Page: 40, Size: api.Large, Frame: 16, Rights: from}
			b := bookOf(t, m)
			m.Rights = to
			mustProtect(t, b, 47, to, m, 0)
			mustBe(t, b, m)
		}
	}
}

// ErrRange is ahead of ErrNone, of the rights, too; with a code nothing changes.
func TestProtectCodes(t *testing.T) {
	empty, some := book.New(), bookOf(t, three...)
	wrongRights := append([]int{8, 9, 15, 16, 64}, farOff...)
	for _, b := range []*book.Book{empty, some} {
		for _, p := range farOff {
			for _, rights := range append([]int{0, 7}, wrongRights...) {
				mustProtect(t, b, p, rights, api.Map{}, api.ErrRange)
			}
		}
		for _, p := range []int{0, 63, 64, 100, 128, 136, 137, last} {
			for _, rights := range wrongRights {
				mustProtect(t, b, p, rights, api.Map{}, api.ErrRange)
			}
		}
		for _, p := range []int{0, 63, 137, last} {
			for rights := range 8 {
				mustProtect(t, b, p, rights, api.Map{}, api.ErrNone)
			}
		}
	}
	mustBe(t, empty)
	mustBe(t, some, three...)
}

func TestFindOfNoPage(t *testing.T) {
	ends := bookOf(t, api.Map{Size: api.Huge}, api.Map{Page: api.Pages - 64, Size: api.Huge})
	for _, b := range []*book.Book{book.New(), bookOf(t, three...), ends} {
		for _, p := range farOff {
			mustFind(t, b, p, api.Map{}, false)
		}
	}
}

// answer tells how an access of a mapping's page n, from its first one on, ends, as the chapters say it.
func answer(m api.Map, n, kind int, user bool) api.Answer {
	switch {
	case kind == api.Write && m.Rights/api.MayWrite%2 == 0,
		kind == api.Run && m.Rights/api.MayRun%2 == 0,
		user && m.Rights/api.MayUser%2 == 0:
		return api.Answer{End: api.NotAllowed}
	}
	return api.Answer{End: api.Done, Frame: m.Frame + n, Rights: m.Rights}
}

func TestAnswer(t *testing.T) {
	for _, m := range three {
		for rights := range 8 {
			m.Rights = rights
			b := bookOf(t, m)
			for _, kind := range append([]int{api.Read, api.Write, api.Run, 3}, farOff...) {
				for _, user := range []bool{false, true} {
					for n := range spans[m.Size] {
						a := api.Access{Page: m.Page + n, Kind: kind, User: user}
						mustAnswer(t, b, a, answer(m, n, kind, user))
						mustAnswer(t, b, a, page.Answer(m, a))
					}
					for _, p := range append([]int{0, m.Page - 1, m.Page + spans[m.Size], last}, farOff...) {
						mustAnswer(t, b, api.Access{Page: p, Kind: kind, User: user}, api.Answer{End: api.NotMapped})
					}
				}
			}
		}
	}
}

// What is asked of a book last is what it answers by.
func TestAnswerBehindChanges(t *testing.T) {
	b := bookOf(t, three...)
	write := api.Access{Page: 130, Kind: api.Write, User: true}
	mustAnswer(t, b, write, api.Answer{End: api.NotAllowed})
	mustProtect(t, b, 129, 3, api.Map{Page: 128, Size: api.Large, Frame: 8, Rights: 3}, 0)
	mustAnswer(t, b, write, api.Answer{End: api.Done, Frame: 10, Rights: 3})
	mustDrop(t, b, 128, api.Map{Page: 128, Size: api.Large, Frame: 8, Rights: 3}, 0)
	mustAnswer(t, b, write, api.Answer{End: api.NotMapped})
	mustAdd(t, b, api.Map{Page: 130, Frame: 77, Rights: 7}, 0)
	mustAnswer(t, b, write, api.Answer{End: api.Done, Frame: 77, Rights: 7})
}

// Looks change nothing, however often they are made.
func TestLooksChangeNothing(t *testing.T) {
	b := bookOf(t, three...)
	for range 3 {
		mustBe(t, b, three...)
		mustBe(t, b.Copy(), three...)
		mustAdd(t, b, three[1], api.ErrThere)
	}
}

func TestFullBooks(t *testing.T) {
	for size, span := range spans {
		count := api.Pages / span
		b := book.New()
		want := make([]api.Map, count)
		for i := range count {
			// 37 has no factor in common with any count: each place comes once.
			place := i * 37 % count
			want[place] = api.Map{Page: place * span, Size: size, Frame: i * span, Rights: i % 8}
			mustAdd(t, b, want[place], 0)
		}
		mustBe(t, b, want...)
		for p := range api.Pages {
			mustAdd(t, b, api.Map{Page: p}, api.ErrThere)
		}
		for i := range count {
			place := i * 11 % count
			mustDrop(t, b, place*span+span-1, want[place], 0)
		}
		mustBe(t, b)
	}
}

// A list that was answered is its asker's alone.
func TestListIsNewMemory(t *testing.T) {
	for _, dropped := range []int{0, 1} {
		// Behind a Drop a book may have room to spare in its memory.
		b := bookOf(t, append([]api.Map{{Page: 4}}, three...)...)
		want := append([]api.Map{{Page: 4}}, three...)
		if dropped == 1 {
			mustDrop(t, b, 4, api.Map{Page: 4}, 0)
			want = want[1:]
		}
		first, second := b.List(), b.List()
		for i := range first {
			first[i] = api.Map{Page: 1, Size: 1, Frame: 1, Rights: 1}
		}
		first = append(first, api.Map{Page: 2})
		mustSameList(t, "another list", second, want)
		mustBe(t, b, want...)
		_ = append(second, first...)
		mustAdd(t, b, api.Map{Page: 0}, 0)
		mustAdd(t, b, api.Map{Page: last}, 0)
		mustProtect(t, b, 136, 6, api.Map{Page: 136, Frame: 5, Rights: 6}, 0)
		mustDrop(t, b, 64, three[0], 0)
		mustSameList(t, "a list of before", second, want)
	}
}

func TestListOfNone(t *testing.T) {
	b := bookOf(t, three[2])
	mustDrop(t, b, 136, three[2], 0)
	list := append(b.List(), api.Map{Page: 1})
	mustAdd(t, b, api.Map{Page: 2}, 0)
	mustSameList(t, "a list that was empty", list, []api.Map{{Page: 1}})
	mustBe(t, b, api.Map{Page: 2})
}

// change asks a book of three, or a copy of it, for changes of all kinds, and tells what it then has.
func change(t *testing.T, b *book.Book) []api.Map {
	t.Helper()
	mustDrop(t, b, 130, three[1], 0)
	mustAdd(t, b, api.Map{Page: 135, Rights: 4}, 0)
	mustAdd(t, b, api.Map{Page: 1}, 0)
	mustAdd(t, b, api.Map{Page: last}, 0)
	other := three[0]
	other.Rights = 0
	mustProtect(t, b, 64, 0, other, 0)
	return []api.Map{{Page: 1}, other, {Page: 135, Rights: 4}, three[2], {Page: last}}
}

func TestCopy(t *testing.T) {
	b := bookOf(t, three...)
	c := b.Copy()
	if c == nil || c == b {
		t.Fatalf("Copy: %p of %p", c, b)
	}
	mustBe(t, c, three...)
	changed := change(t, b)
	mustBe(t, b, changed...)
	mustBe(t, c, three...)
}

func TestCopyLeavesTheBook(t *testing.T) {
	b := bookOf(t, three...)
	c := b.Copy()
	changed := change(t, c)
	mustBe(t, c, changed...)
	mustBe(t, b, three...)
	d := c.Copy()
	mustDrop(t, d, 135, api.Map{Page: 135, Rights: 4}, 0)
	mustBe(t, c, changed...)
	mustBe(t, b, three...)
	mustBe(t, d, changed[0], changed[1], changed[3], changed[4])
}

// A book that was full of mappings and is empty again may have memory to spare: a copy has its own.
func TestCopyOfNone(t *testing.T) {
	b := bookOf(t, three...)
	for _, m := range three {
		mustDrop(t, b, m.Page, m, 0)
	}
	for _, none := range []*book.Book{book.New(), b} {
		c := none.Copy()
		mustAdd(t, c, api.Map{Page: 5}, 0)
		mustBe(t, none)
		mustAdd(t, none, api.Map{Page: 6}, 0)
		mustBe(t, c, api.Map{Page: 5})
		mustBe(t, none, api.Map{Page: 6})
	}
}

// Room to spare behind a book's mappings is not shared with its copy, however many there are.
func TestCopiesGrowApart(t *testing.T) {
	b := book.New()
	var want []api.Map
	for p := range 40 {
		c := b.Copy()
		mustAdd(t, b, api.Map{Page: p, Rights: 1}, 0)
		mustAdd(t, c, api.Map{Page: p, Rights: 2}, 0)
		mustSameList(t, "copy", c.List(), append(slices.Clone(want), api.Map{Page: p, Rights: 2}))
		want = append(want, api.Map{Page: p, Rights: 1})
		mustSameList(t, "book", b.List(), want)
	}
}

func TestTwoBooks(t *testing.T) {
	a, b := book.New(), book.New()
	mustAdd(t, a, three[0], 0)
	mustBe(t, b)
	mustDrop(t, b, 64, api.Map{}, api.ErrNone)
	mustProtect(t, b, 64, 0, api.Map{}, api.ErrNone)
	other := api.Map{Page: 64, Size: api.Large, Frame: 0, Rights: 1}
	mustAdd(t, b, other, 0)
	mustBe(t, a, three[0])
	other.Rights = 2
	mustProtect(t, b, 71, 2, other, 0)
	mustBe(t, a, three[0])
	mustDrop(t, a, 64, three[0], 0)
	mustBe(t, b, other)
	mustBe(t, a)
}
