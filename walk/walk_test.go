package walk_test

import (
	"fmt"
	"math"
	"slices"
	"testing"

	"wayleave/api"
	"wayleave/frames"
	"wayleave/walk"
)

const (
	last = api.Pages - 1
	top  = api.Levels - 1
)

// farOff are numbers that are neither a page nor a frame of any memory.
var farOff = []int{math.MinInt, math.MinInt + 1, -1 << 32, -api.Pages, -129, -8, -2, -1, api.Pages, api.Pages + 1, api.MaxData, 1 << 32, 1<<32 + 1, math.MaxInt - 1, math.MaxInt}

// spans tell how many pages an entry of each level has on its way.
var spans = []int{1, 8, 64, 512}

// The bits of a word, as the chapter of entries says them.
const (
	there = 1
	used  = 1 << 5
	dirty = 1 << 6
	big   = 1 << 7 // Leaf, above the level 0
)

// leads tells the word of an entry that leads to a table.
func leads(table int) uint64 { return uint64(table)<<12 | 7<<1 | there }

// leaf tells the word of a leaf of a level, and its entry.
func leaf(level, frame, rights int, marks uint64) (uint64, api.Entry) {
	word := uint64(frame)<<12 | marks | uint64(rights)<<1 | there
	if level > 0 {
		word |= big
	}
	return word, api.Entry{There: true, Leaf: true, Rights: rights, Used: marks&used != 0, Dirty: marks&dirty != 0, Frame: frame}
}

// mapped tells the word of a leaf of a level without marks.
func mapped(level, frame, rights int) uint64 {
	word, _ := leaf(level, frame, rights, 0)
	return word
}

// filled tells a memory of n frames, all of them in use.
func filled(t *testing.T, n int) *frames.Frames {
	t.Helper()
	f, fault := frames.New(n)
	if fault != (api.Fault{}) {
		t.Fatalf("New(%d): %v", n, fault)
	}
	for range n {
		f.Take()
	}
	return f
}

func mustStore(t *testing.T, f *frames.Frames, k, i int, w uint64) {
	t.Helper()
	if !f.Store(k, i, w) {
		t.Fatalf("Store(%d, %d, %#x): false", k, i, w)
	}
}

// wayTo lays a way to a page, from the root 0 on, and a word at its end: in the table of a level, which is the frame top - level.
func wayTo(t *testing.T, p, level int, w uint64) *frames.Frames {
	t.Helper()
	f := filled(t, api.Levels)
	for high := top; high > level; high-- {
		mustStore(t, f, top-high, p/spans[high]%8, leads(top-high+1))
	}
	mustStore(t, f, top-level, p/spans[level]%8, w)
	return f
}

// spotOn tells where the way of wayTo ends.
func spotOn(p, level int, e api.Entry) walk.Spot {
	s := walk.Spot{Level: level, E: e}
	for high := top; high >= level; high-- {
		s.Tables = append(s.Tables, top-high)
		s.Places = append(s.Places, p/spans[high]%8)
	}
	return s
}

func sameSpot(a, b walk.Spot) bool {
	return a.Level == b.Level && a.E == b.E && slices.Equal(a.Tables, b.Tables) && slices.Equal(a.Places, b.Places)
}

func mustFind(t *testing.T, f *frames.Frames, root, p int, want walk.Spot) {
	t.Helper()
	if got, code := walk.Find(f, root, p); !sameSpot(got, want) || code != 0 {
		t.Fatalf("Find(%d, %d): %v, %d, want %v, 0", root, p, got, code, want)
	}
}

func mustList(t *testing.T, f *frames.Frames, root int, want ...api.Map) {
	t.Helper()
	if got, code := walk.List(f, root); !slices.Equal(got, want) || code != 0 {
		t.Fatalf("List(%d): %v, %d, want %v, 0", root, got, code, want)
	}
}

func mustTables(t *testing.T, f *frames.Frames, root int, want ...int) {
	t.Helper()
	if got, code := walk.Tables(f, root); !slices.Equal(got, want) || code != 0 {
		t.Fatalf("Tables(%d): %v, %d, want %v, 0", root, got, code, want)
	}
}

// mustNotFind fails unless Find tells this code, and nothing else.
func mustNotFind(t *testing.T, f *frames.Frames, root, p, want int) {
	t.Helper()
	if got, code := walk.Find(f, root, p); !sameSpot(got, walk.Spot{}) || code != want {
		t.Fatalf("Find(%d, %d): %v, %d, want nothing, %d", root, p, got, code, want)
	}
}

// mustNotTell fails unless List and Tables tell this code, and nothing else.
func mustNotTell(t *testing.T, f *frames.Frames, root, want int) {
	t.Helper()
	if got, code := walk.List(f, root); len(got) != 0 || code != want {
		t.Fatalf("List(%d): %v, %d, want nothing, %d", root, got, code, want)
	}
	if got, code := walk.Tables(f, root); len(got) != 0 || code != want {
		t.Fatalf("Tables(%d): %v, %d, want nothing, %d", root, got, code, want)
	}
}

// somePages are the first and the last one, and those at the edges of what entries of each level have.
var somePages = []int{0, 1, 7, 8, 63, 64, 65, 511, 512, 513, 645, 1234, 2047, 2048, 4031, 4032, 4087, 4088, last - 1, last}

func TestRootThatLeadsNowhere(t *testing.T) {
	f := filled(t, 3)
	mustStore(t, f, 1, 0, mapped(1, 8, 7))
	for _, root := range []int{0, 2} {
		for p := range api.Pages {
			mustFind(t, f, root, p, walk.Spot{Level: top, Tables: []int{root}, Places: []int{p / 512}})
		}
		mustList(t, f, root)
		mustTables(t, f, root, root)
	}
}

func TestLastFrameIsARoot(t *testing.T) {
	f := filled(t, api.MaxFrames)
	root := api.MaxFrames - 1
	mustStore(t, f, root, 7, leads(root-1))
	mustFind(t, f, root, last, walk.Spot{Level: 2, Tables: []int{root, root - 1}, Places: []int{7, 7}})
	mustTables(t, f, root, root, root-1)
}

// A way ends at each level at what is not there.
func TestWaysThatEndAtNothing(t *testing.T) {
	for level := range api.Levels {
		for _, p := range somePages {
			f := wayTo(t, p, level, 0)
			mustFind(t, f, 0, p, spotOn(p, level, api.Entry{}))
			mustList(t, f, 0)
			mustTables(t, f, 0, spotOn(p, level, api.Entry{}).Tables...)
		}
	}
}

// A way ends at leaves of each size, of all rights and marks.
func TestWaysThatEndAtALeaf(t *testing.T) {
	for level := range top {
		for _, p := range somePages {
			for _, frame := range []int{0, 64, api.MaxData - spans[level]} {
				for n := range 32 {
					rights, marks := n%8, uint64(n/8)<<5
					word, e := leaf(level, frame, rights, marks)
					f := wayTo(t, p, level, word)
					mustFind(t, f, 0, p, spotOn(p, level, e))
					mustList(t, f, 0, api.Map{Page: p - p%spans[level], Size: level, Frame: frame, Rights: rights})
					mustTables(t, f, 0, spotOn(p, level, e).Tables...)
				}
			}
		}
	}
}

// All pages of a leaf, and no others, have their way to it.
func TestPagesOfALeaf(t *testing.T) {
	for level := range top {
		for _, p := range []int{0, 645, 2048, last} {
			word, e := leaf(level, 128, 5, dirty)
			f := wayTo(t, p, level, word)
			for q := range api.Pages {
				got, code := walk.Find(f, 0, q)
				at := q/spans[level] == p/spans[level]
				if got.E.There != at || code != 0 {
					t.Fatalf("leaf of the level %d over %d: Find(%d): %v, %d", level, p, q, got, code)
				}
				if at {
					mustFind(t, f, 0, q, spotOn(q, level, e))
				}
			}
		}
	}
}

func TestEachWordOfATable(t *testing.T) {
	f := filled(t, 4)
	for i := range 3 {
		mustStore(t, f, i, 3, leads(i+1))
	}
	var want []api.Map
	for place := range api.Fan {
		mustStore(t, f, 3, place, mapped(0, 100-place, place))
		want = append(want, api.Map{Page: 3*512 + 3*64 + 3*8 + place, Frame: 100 - place, Rights: place})
	}
	mustList(t, f, 0, want...)
	for _, m := range want {
		e := api.Entry{There: true, Leaf: true, Rights: m.Rights, Frame: m.Frame}
		mustFind(t, f, 0, m.Page, walk.Spot{E: e, Tables: []int{0, 1, 2, 3}, Places: []int{3, 3, 3, m.Page % 8}})
	}
}

// Leaves of all sizes, tables and nothing lie side by side; numbers of tables do not rise with the pages.
func TestOrder(t *testing.T) {
	f := filled(t, 9)
	const root, second, first, low, lower, lowest, bare = 4, 2, 8, 7, 0, 5, 1
	mustStore(t, f, root, 6, leads(second))
	mustStore(t, f, root, 1, leads(first))
	mustStore(t, f, first, 7, leads(low))
	mustStore(t, f, first, 0, mapped(2, 64, 1))
	mustStore(t, f, first, 2, leads(bare))
	mustStore(t, f, low, 1, mapped(1, 8, 2))
	mustStore(t, f, low, 0, leads(lower))
	mustStore(t, f, lower, 7, mapped(0, 9, 3))
	mustStore(t, f, lower, 0, mapped(0, 11, 0))
	mustStore(t, f, second, 1, mapped(2, 128, 7))
	mustStore(t, f, second, 0, leads(lowest))
	mustList(t, f, root,
		api.Map{Page: 512, Size: api.Huge, Frame: 64, Rights: 1},
		api.Map{Page: 960, Frame: 11},
		api.Map{Page: 967, Frame: 9, Rights: 3},
		api.Map{Page: 968, Size: api.Large, Frame: 8, Rights: 2},
		api.Map{Page: 6*512 + 64, Size: api.Huge, Frame: 128, Rights: 7})
	mustTables(t, f, root, root, first, bare, low, lower, second, lowest)
	// Any table may be asked as a root.
	mustTables(t, f, bare, bare)
	mustNotTell(t, f, first, api.ErrKind)
}

// With all tables full of leaves, each page has a mapping, in order.
func TestFullLists(t *testing.T) {
	for level := range top {
		f := filled(t, api.Levels-level)
		for high := top; high > level; high-- {
			for place := range api.Fan {
				mustStore(t, f, top-high, place, leads(top-high+1))
			}
		}
		for place := range api.Fan {
			mustStore(t, f, top-level, place, mapped(level, 64*place, place))
		}
		var want []api.Map
		for p := 0; p < api.Pages; p += spans[level] {
			place := p / spans[level] % 8
			want = append(want, api.Map{Page: p, Size: level, Frame: 64 * place, Rights: place})
		}
		mustList(t, f, 0, want...)
	}
}

func TestNoSuchPage(t *testing.T) {
	for level := range top {
		f := wayTo(t, last, level, mapped(level, 0, 7))
		for _, p := range farOff {
			mustNotFind(t, f, 0, p, api.ErrRange)
		}
	}
}

// That there is no such page is told ahead of all codes on the way.
func TestNoSuchPageFirst(t *testing.T) {
	f := filled(t, 3)
	for place := range api.Fan {
		mustStore(t, f, 0, place, 2)
		mustStore(t, f, 1, place, leads(2))
	}
	f.Give(2)
	for _, p := range farOff {
		for _, root := range append([]int{0, 1, 2, 3}, farOff...) {
			mustNotFind(t, f, root, p, api.ErrRange)
		}
	}
}

func TestRootThatIsNotInUse(t *testing.T) {
	f, _ := frames.New(5)
	for range 4 {
		f.Take()
	}
	f.Store(1, 0, mapped(2, 0, 7))
	f.Give(1)
	f.Give(3)
	for _, root := range append([]int{1, 3, 4, 5, 127, 128}, farOff...) {
		for _, p := range somePages {
			mustNotFind(t, f, root, p, api.ErrFree)
		}
		mustNotTell(t, f, root, api.ErrFree)
	}
}

func TestNoFrames(t *testing.T) {
	f, _ := frames.New(0)
	for _, root := range append([]int{0, 1}, farOff...) {
		mustNotFind(t, f, root, 0, api.ErrFree)
		mustNotFind(t, f, root, -1, api.ErrRange)
		mustNotTell(t, f, root, api.ErrFree)
	}
}

// A table on the way, at each level, is free again, was never in use, or there is no such frame.
func TestTableThatIsNotInUse(t *testing.T) {
	for level := 1; level < api.Levels; level++ {
		for _, p := range somePages {
			for _, table := range []int{4, 127, 128, 4096, api.MaxData - 1} {
				f := wayTo(t, p, level, leads(table))
				mustNotFind(t, f, 0, p, api.ErrFree)
				mustNotTell(t, f, 0, api.ErrFree)
			}
			f := wayTo(t, p, 0, mapped(0, 1, 7))
			f.Give(top - level + 1)
			mustNotFind(t, f, 0, p, api.ErrFree)
			mustNotTell(t, f, 0, api.ErrFree)
			// In use again, its words are noughts.
			f.Take()
			mustFind(t, f, 0, p, spotOn(p, level-1, api.Entry{}))
			mustList(t, f, 0)
		}
	}
}

// wrong is a word that says nothing at some levels, and the code that is told there.
type wrong struct {
	word   uint64
	levels []int
	code   int
}

// wrongWords tells words for each code that entry.Decode tells at each level. (ErrRange it tells of levels alone, and there is none on the way.)
func wrongWords() []wrong {
	every := []int{0, 1, 2, 3}
	all := []wrong{
		{big | there, []int{0}, api.ErrBits},
		{big | there, []int{3}, api.ErrKind},
		{big | 7<<1 | there, []int{3}, api.ErrKind},
		{1<<12 | big | there, []int{1, 2}, api.ErrAlign},
		{8<<12 | big | there, []int{2}, api.ErrAlign},
		{(api.MaxData-1)<<12 | big | there, []int{1, 2}, api.ErrAlign},
		{leads(1) | used, []int{1, 2, 3}, api.ErrBits},
		{leads(1) | dirty, []int{1, 2, 3}, api.ErrBits},
		// Where several codes are so, the first is told.
		{1<<12 | big | there | 1<<4, every, api.ErrBits},
		{1<<12 | big | there, []int{3}, api.ErrKind},
		{1<<12 | big, every, api.ErrBits},
		{math.MaxUint64, every, api.ErrBits},
		{math.MaxUint64 - 1, every, api.ErrBits},
	}
	for rights := range 7 {
		all = append(all, wrong{uint64(rights)<<1 | there, []int{1, 2, 3}, api.ErrBits})
	}
	for bit := range 64 {
		if bit != 0 {
			all = append(all, wrong{1 << bit, every, api.ErrBits})
		}
		if bit == 4 || bit >= 8 && bit < 12 || bit >= 32 {
			all = append(all, wrong{1<<bit | leads(1), every, api.ErrBits})
		}
	}
	return all
}

func TestWrongWords(t *testing.T) {
	for _, w := range wrongWords() {
		for _, level := range w.levels {
			for _, p := range []int{0, 645, last} {
				f := wayTo(t, p, level, w.word)
				mustNotFind(t, f, 0, p, w.code)
				mustNotTell(t, f, 0, w.code)
			}
		}
	}
}

// Of a word that is wrong, and would lead to a table that is not in use, the word's code is told.
func TestWordAheadOfItsTable(t *testing.T) {
	for level := 1; level < api.Levels; level++ {
		f := wayTo(t, 9, level, leads(100)|used)
		mustNotFind(t, f, 0, 9, api.ErrBits)
		mustNotTell(t, f, 0, api.ErrBits)
	}
}

// The codes at three words, one behind the other: the first of them is told of the tables, and each of its own pages alone.
func TestFirstCode(t *testing.T) {
	words := []struct {
		word uint64
		code int
	}{
		{leads(100), api.ErrFree},
		{1<<12 | big | there, api.ErrAlign},
		{2, api.ErrBits},
	}
	for _, order := range [][]int{{0, 1, 2}, {0, 2, 1}, {1, 0, 2}, {1, 2, 0}, {2, 0, 1}, {2, 1, 0}} {
		for level := 1; level < top; level++ {
			for upper := range 2 {
				// The last of the codes stands in the table of the two others, or in the root.
				f := filled(t, 4)
				for high := top; high > level; high-- {
					mustStore(t, f, top-high, 2, leads(top-high+1))
				}
				table := top - level
				mustStore(t, f, table, 1, mapped(level, 0, 7))
				mustStore(t, f, table, 4, words[order[0]].word)
				mustStore(t, f, table, 5, words[order[1]].word)
				start := pageAt(2, level)
				behind, behindAt := words[order[2]], start+7*spans[level]
				if upper == 1 {
					table, behindAt = 0, 7*512
					if behind.code == api.ErrAlign {
						behind.code = api.ErrKind // no leaf stands at the root's level
					}
				}
				mustStore(t, f, table, 7, behind.word)
				mustNotTell(t, f, 0, words[order[0]].code)
				mustNotFind(t, f, 0, start+4*spans[level], words[order[0]].code)
				mustNotFind(t, f, 0, start+5*spans[level], words[order[1]].code)
				mustNotFind(t, f, 0, behindAt, behind.code)
				_, e := leaf(level, 0, 7, 0)
				mustFind(t, f, 0, start+spans[level], spotOn(start+spans[level], level, e))
			}
		}
	}
}

// pageAt tells the first page of the table of a level to which the place leads in all tables above.
func pageAt(place, level int) int {
	p := 0
	for high := top; high > level; high-- {
		p += place * spans[high]
	}
	return p
}

// What a table leads to is gone through ahead of its next word, down to the lowest level.
func TestTableAheadOfTheNextWord(t *testing.T) {
	for level := range top {
		f := wayTo(t, 0, level, 0)
		mustStore(t, f, top-level, 7, 2)
		for high := top; high > level; high-- {
			mustStore(t, f, top-high, 1, leads(100))
		}
		mustNotTell(t, f, 0, api.ErrBits)
		mustStore(t, f, top-level, 7, 0)
		mustNotTell(t, f, 0, api.ErrFree)
	}
}

// Words that are not on the way are not looked at.
func TestWrongWordsBesideTheWay(t *testing.T) {
	for level := range top {
		word, e := leaf(level, 64, 3, 0)
		for _, p := range somePages {
			f := wayTo(t, p, level, word)
			for high := top; high >= level; high-- {
				for place := range api.Fan {
					if place != p/spans[high]%8 {
						mustStore(t, f, top-high, place, []uint64{2, leads(100)}[place%2])
					}
				}
			}
			mustFind(t, f, 0, p, spotOn(p, level, e))
			for high := top; high >= level; high-- {
				beside := p ^ spans[high]
				want := []int{api.ErrBits, api.ErrFree}[beside/spans[high]%2]
				if high == 0 && want == api.ErrFree {
					continue // at the level 0 that word is a leaf
				}
				mustNotFind(t, f, 0, beside, want)
			}
		}
	}
}

// A table that is led to twice by one table, and once by another, stands there three times, with its mappings of other pages each time.
func TestTableThatIsLedToSeveralTimes(t *testing.T) {
	f := filled(t, 5)
	mustStore(t, f, 0, 1, leads(1))
	mustStore(t, f, 0, 2, leads(2))
	mustStore(t, f, 1, 0, leads(3))
	mustStore(t, f, 1, 7, leads(3))
	mustStore(t, f, 2, 4, leads(3))
	mustStore(t, f, 3, 5, mapped(1, 8, 6))
	mustStore(t, f, 3, 6, leads(4))
	mustStore(t, f, 4, 1, mapped(0, 77, 1))
	var want []api.Map
	for _, start := range []int{512, 512 + 7*64, 2*512 + 4*64} {
		want = append(want, api.Map{Page: start + 40, Size: api.Large, Frame: 8, Rights: 6}, api.Map{Page: start + 49, Frame: 77, Rights: 1})
	}
	mustList(t, f, 0, want...)
	mustTables(t, f, 0, 0, 1, 3, 4, 3, 4, 2, 3, 4)
	mustFind(t, f, 0, 512+7*64+49, walk.Spot{E: api.Entry{There: true, Leaf: true, Rights: 1, Frame: 77}, Tables: []int{0, 1, 3, 4}, Places: []int{1, 7, 6, 1}})
}

// A table that is led to at several levels says at each of them what its words say there.
func TestTableOfSeveralLevels(t *testing.T) {
	f := filled(t, 3)
	mustStore(t, f, 0, 0, leads(2))
	mustStore(t, f, 0, 1, leads(1))
	mustStore(t, f, 1, 3, leads(2))
	mustStore(t, f, 2, 7, mapped(1, 64, 5))
	mustList(t, f, 0,
		api.Map{Page: 7 * 64, Size: api.Huge, Frame: 64, Rights: 5},
		api.Map{Page: 512 + 3*64 + 7*8, Size: api.Large, Frame: 64, Rights: 5})
	mustTables(t, f, 0, 0, 2, 1, 2)
	// What is a large mapping's frame need not be a huge one's.
	mustStore(t, f, 2, 7, mapped(1, 8, 5))
	mustNotTell(t, f, 0, api.ErrAlign)
	mustStore(t, f, 0, 0, 0)
	mustList(t, f, 0, api.Map{Page: 512 + 3*64 + 7*8, Size: api.Large, Frame: 8, Rights: 5})
}

// A root whose words lead to itself ends at the level 0, where they are leaves.
func TestTableThatLeadsToItself(t *testing.T) {
	f := filled(t, 3)
	mustStore(t, f, 2, 5, leads(2))
	p := 5*512 + 5*64 + 5*8 + 5
	e := api.Entry{There: true, Leaf: true, Rights: 7, Frame: 2}
	mustFind(t, f, 2, p, walk.Spot{E: e, Tables: []int{2, 2, 2, 2}, Places: []int{5, 5, 5, 5}})
	mustFind(t, f, 2, p-8, walk.Spot{Level: 1, Tables: []int{2, 2, 2}, Places: []int{5, 5, 4}})
	mustList(t, f, 2, api.Map{Page: p, Frame: 2, Rights: 7})
	mustTables(t, f, 2, 2, 2, 2, 2)

	var maps []api.Map
	for place := range api.Fan {
		mustStore(t, f, 2, place, leads(2))
	}
	for p := range api.Pages {
		mustFind(t, f, 2, p, walk.Spot{E: e, Tables: []int{2, 2, 2, 2}, Places: []int{p / 512, p / 64 % 8, p / 8 % 8, p % 8}})
		maps = append(maps, api.Map{Page: p, Frame: 2, Rights: 7})
	}
	mustList(t, f, 2, maps...)
	mustTables(t, f, 2, slices.Repeat([]int{2}, 1+8+64+512)...)
}

func TestTableThatLeadsToOneAhead(t *testing.T) {
	f := filled(t, 3)
	mustStore(t, f, 0, 1, leads(1))
	mustStore(t, f, 1, 2, leads(2))
	mustStore(t, f, 2, 3, leads(0))
	p := 512 + 2*64 + 3*8 + 1
	mustFind(t, f, 0, p, walk.Spot{E: api.Entry{There: true, Leaf: true, Rights: 7, Frame: 1}, Tables: []int{0, 1, 2, 0}, Places: []int{1, 2, 3, 1}})
	mustList(t, f, 0, api.Map{Page: p, Frame: 1, Rights: 7})
	mustTables(t, f, 0, 0, 1, 2, 0)
	// By the table in the middle, too.
	mustStore(t, f, 1, 4, leads(0))
	mustTables(t, f, 0, 0, 1, 2, 0, 0, 1)
	mustList(t, f, 0, api.Map{Page: p, Frame: 1, Rights: 7}, api.Map{Page: 512 + 4*64 + 8 + 2, Frame: 2, Rights: 7}, api.Map{Page: 512 + 4*64 + 8 + 4, Rights: 7})
}

// mixed tells a memory of five frames, one of them given back, with leaves of each size from the root 0 on.
func mixed(t *testing.T) *frames.Frames {
	t.Helper()
	f := filled(t, 5)
	mustStore(t, f, 0, 1, leads(2))
	mustStore(t, f, 2, 0, mapped(2, 64, 1))
	mustStore(t, f, 2, 3, leads(3))
	mustStore(t, f, 3, 3, mapped(1, 8, 2))
	mustStore(t, f, 3, 4, leads(1))
	mustStore(t, f, 1, 7, mapped(0, 5, 3))
	f.Give(4)
	return f
}

// state tells all that a memory tells, without a change of it.
func state(f *frames.Frames) string {
	text := fmt.Sprint(f.Free())
	for k := range api.MaxFrames {
		text += fmt.Sprint(" ", f.Taken(k))
		for i := range api.Fan {
			word, inUse := f.Load(k, i)
			text += fmt.Sprint(" ", word, inUse)
		}
	}
	return text
}

// askAll asks all there is of a memory, with codes and without.
func askAll(f *frames.Frames) {
	for _, root := range append([]int{0, 1, 2, 3, 4, 5}, farOff...) {
		for _, p := range append(slices.Clone(somePages), farOff...) {
			walk.Find(f, root, p)
		}
		walk.List(f, root)
		walk.Tables(f, root)
	}
}

func TestNothingIsChangedInTheFrames(t *testing.T) {
	f, other := mixed(t), mixed(t)
	askAll(f)
	if state(f) != state(other) {
		t.Errorf("the frames are %s, were %s", state(f), state(other))
	}
	for range 3 {
		if got, want := f.Take(), other.Take(); got != want {
			t.Errorf("Take: %d, want %d", got, want)
		}
	}
}

// What was answered stays, whatever is asked of the frames then; and the frames stay, whatever is done to it.
func TestAnswersAreNewMemory(t *testing.T) {
	f := mixed(t)
	was := state(f)
	p := 512 + 3*64 + 4*8 + 7
	spot, _ := walk.Find(f, 0, p)
	maps, _ := walk.List(f, 0)
	tables, _ := walk.Tables(f, 0)
	wantSpot := walk.Spot{E: api.Entry{There: true, Leaf: true, Rights: 3, Frame: 5}, Tables: []int{0, 2, 3, 1}, Places: []int{1, 3, 4, 7}}
	wantMaps := []api.Map{{Page: 512, Size: api.Huge, Frame: 64, Rights: 1}, {Page: 512 + 216, Size: api.Large, Frame: 8, Rights: 2}, {Page: p, Frame: 5, Rights: 3}}
	wantTables := []int{0, 2, 3, 1}
	mustStay := func(what string) {
		t.Helper()
		if !sameSpot(spot, wantSpot) || !slices.Equal(maps, wantMaps) || !slices.Equal(tables, wantTables) {
			t.Errorf("%s: %v, %v, %v", what, spot, maps, tables)
		}
	}
	mustStay("at first")

	changed := mixed(t)
	spot, _ = walk.Find(changed, 0, p)
	maps, _ = walk.List(changed, 0)
	tables, _ = walk.Tables(changed, 0)
	for k := range 5 {
		for i := range api.Fan {
			changed.Store(k, i, 2)
		}
		changed.Give(k)
	}
	changed.Take()
	askAll(changed)
	mustStay("when the frames were changed")

	spot, _ = walk.Find(f, 0, p)
	maps, _ = walk.List(f, 0)
	tables, _ = walk.Tables(f, 0)
	spoil(f, p)
	mustStay("when other answers were changed")
	if state(f) != was {
		t.Errorf("the frames are %s, were %s", state(f), was)
	}
	mustFind(t, f, 0, p, wantSpot)
	mustList(t, f, 0, wantMaps...)
	mustTables(t, f, 0, wantTables...)
}

// spoil writes over all memory of new answers, behind their length, too.
func spoil(f *frames.Frames, p int) {
	spot, _ := walk.Find(f, 0, p)
	maps, _ := walk.List(f, 0)
	tables, _ := walk.Tables(f, 0)
	for _, list := range [][]int{spot.Tables, spot.Places, tables} {
		list = list[:cap(list)]
		for i := range list {
			list[i] = -7
		}
	}
	maps = maps[:cap(maps)]
	for i := range maps {
		maps[i] = api.Map{Page: -7}
	}
}

// The two lists of a spot share no memory, behind their lengths neither.
func TestListsOfASpot(t *testing.T) {
	for level := range top {
		_, e := leaf(level, 64, 3, 0)
		f := wayTo(t, 645, level, mapped(level, 64, 3))
		spot, _ := walk.Find(f, 0, 645)
		places := slices.Clone(spot.Places)
		tables := spot.Tables[:cap(spot.Tables)]
		for i := range tables {
			tables[i] = -7
		}
		if !slices.Equal(spot.Places, places) {
			t.Errorf("the places are %v, were %v", spot.Places, places)
		}
		mustFind(t, f, 0, 645, spotOn(645, level, e))
	}
}
