package table_test

import (
	"math"
	"slices"
	"testing"

	"wayleave/api"
	"wayleave/frames"
	"wayleave/table"
)

// mustTell fails unless all four calls tell this code of a page, and leave the memory as it is.
func mustTell(t *testing.T, was *memory, root, p, want int) {
	t.Helper()
	mustHaveNone(t, was, root, p, want)
	for size := range top {
		if p%spans[size] == 0 {
			mustNotInsert(t, was, root, api.Map{Page: p, Size: size}, want)
		}
	}
}

func TestRootThatIsNotInUse(t *testing.T) {
	was := blank(5, 3, 1, 4)
	for i := range api.Fan {
		was.words[1][i] = leaf(1, 64, 7, 0)
	}
	for _, root := range append([]int{1, 3, 4, 5, 127, 128}, farOff...) {
		for _, p := range []int{0, 640, last} {
			mustTell(t, was, root, p, api.ErrFree)
		}
	}
}

func TestNoFrames(t *testing.T) {
	for _, root := range append([]int{0, 1}, farOff...) {
		mustTell(t, blank(0), root, 0, api.ErrFree)
		mustHaveNone(t, blank(0), root, -1, api.ErrRange)
		mustNotProtect(t, blank(0), root, 0, 8, api.ErrRange)
		mustNotInsert(t, blank(0), root, api.Map{Size: 3}, api.ErrKind)
	}
}

// A table on the way is free, at each level, or there is no such frame.
func TestTableThatIsNotInUse(t *testing.T) {
	for level := 1; level < api.Levels; level++ {
		for _, p := range []int{0, 640, last} {
			for _, k := range []int{4, 7, 127, 128, api.MaxData - 1} {
				mustTell(t, wayTo(p, level, leads(k), 4), 0, p, api.ErrFree)
			}
		}
	}
}

// A word on the way is none, at each level.
func TestWrongWords(t *testing.T) {
	wrong := []struct {
		word   uint64
		levels []int
		code   int
	}{
		{2, []int{0, 1, 2, 3}, api.ErrBits},
		{big, []int{0, 1, 2, 3}, api.ErrBits},
		{1<<4 | leads(1), []int{0, 1, 2, 3}, api.ErrBits},
		{1<<32 | leads(1), []int{0, 1, 2, 3}, api.ErrBits},
		{math.MaxUint64, []int{0, 1, 2, 3}, api.ErrBits},
		{big | there, []int{0}, api.ErrBits},
		{leads(1) | used, []int{1, 2, 3}, api.ErrBits},
		{leads(100) | dirty, []int{1, 2, 3}, api.ErrBits},
		{1<<12 | there, []int{1, 2, 3}, api.ErrBits},
		{big | there, []int{3}, api.ErrKind},
		{1<<12 | big | there, []int{3}, api.ErrKind},
		{1<<12 | big | there, []int{1, 2}, api.ErrAlign},
		{8<<12 | big | there, []int{2}, api.ErrAlign},
	}
	for _, w := range wrong {
		for _, level := range w.levels {
			for _, p := range []int{0, 640, last} {
				mustTell(t, wayTo(p, level, w.word, 3), 0, p, w.code)
			}
		}
	}
}

// A root that leads to itself is each table on the way, and what it says at the level 0 is a leaf, which is the word that leads on, too.
func TestRootThatLeadsToItself(t *testing.T) {
	const root = 2
	p := 5*512 + 5*64 + 5*8 + 5
	m := api.Map{Page: p, Frame: root, Rights: 7}
	was := blank(4, 3)
	was.words[root][5] = leads(root)

	f := was.lay(t)
	mustFind(t, f, root, p, m, api.Entry{There: true, Leaf: true, Rights: 7, Frame: root})
	// It counts at each of its places but the highest one.
	mustRemove(t, f, root, p, m, root, root, root)
	mustBe(t, f, blank(4, 3))

	f = was.lay(t)
	m.Rights = 2
	mustProtect(t, f, root, p, 2, m)
	want := blank(4, 3)
	want.words[root][5] = leaf(0, root, 2, 0)
	mustBe(t, f, want)

	// With another word in it, it goes nowhere.
	was.words[root][0] = 2
	f = was.lay(t)
	m.Rights = 7
	mustRemove(t, f, root, p, m)
	want = blank(4, 3)
	want.words[root][0] = 2
	mustBe(t, f, want)
}

// Into such a root mappings go where its words are free, at the level where the way ends.
func TestInsertIntoARootThatLeadsToItself(t *testing.T) {
	was := blank(4, 3, 0)
	was.words[2][5] = leads(2)
	f := was.lay(t)
	mustInsert(t, f, 2, api.Map{Page: 5*512 + 4*64, Size: api.Huge, Frame: 128, Rights: 1}, 0)
	want := was.clone()
	want.words[2][4] = leaf(2, 128, 1, 0)
	mustBe(t, f, want)

	f = was.lay(t)
	mustInsert(t, f, 2, api.Map{Page: 5*512 + 4*64 + 7, Frame: 9, Rights: 1}, 0)
	want = was.clone()
	want.words[2][4] = leads(3)
	want.words[3][0] = leads(0)
	want.words[0][7] = leaf(0, 9, 1, 0)
	want.free = nil
	mustBe(t, f, want)

	mustNotInsert(t, was, 2, api.Map{Page: 5*512 + 5*64 + 5*8, Size: api.Large}, api.ErrThere)
	mustNotInsert(t, was, 2, api.Map{Page: 3 * 512}, api.ErrFull)
}

// The root is the lowest table on the way, too: its word there and its word at the top are two, and then one.
func TestTableThatLeadsToOneAhead(t *testing.T) {
	was := blank(3)
	was.words[0][1] = leads(1)
	was.words[1][2] = leads(2)
	was.words[2][3] = leads(0)

	// The leaf is the word that leads to the table 1.
	p := 512 + 2*64 + 3*8 + 1
	f := was.lay(t)
	mustRemove(t, f, 0, p, api.Map{Page: p, Frame: 1, Rights: 7}, 0, 2, 1)
	mustBe(t, f, blank(3))

	// The leaf is another word of the root, which stays, and all tables with it.
	was.words[0][6] = leaf(0, 9, 1, dirty)
	p = 512 + 2*64 + 3*8 + 6
	f = was.lay(t)
	mustRemove(t, f, 0, p, api.Map{Page: p, Frame: 9, Rights: 1})
	want := was.clone()
	want.words[0][6] = 0
	mustBe(t, f, want)

	f = was.lay(t)
	mustProtect(t, f, 0, p, 4, api.Map{Page: p, Frame: 9, Rights: 4})
	want.words[0][6] = leaf(0, 9, 4, dirty)
	mustBe(t, f, want)

	f = was.lay(t)
	mustInsert(t, f, 0, api.Map{Page: p + 1, Frame: 8, Rights: 3}, 0)
	want = was.clone()
	want.words[0][7] = leaf(0, 8, 3, 0)
	mustBe(t, f, want)
}

// A table in the middle that leads to itself goes at both of its places, if it is empty.
func TestTableThatLeadsToItself(t *testing.T) {
	was := blank(3)
	was.words[0][1] = leads(1)
	was.words[1][2] = leads(1)
	p := 512 + 2*64 + 2*8 + 2
	f := was.lay(t)
	mustRemove(t, f, 0, p, api.Map{Page: p, Frame: 1, Rights: 7}, 1, 1, 1)
	mustBe(t, f, blank(3))

	// A large leaf in it, by the way once through it: the word that leads to itself keeps it.
	was.words[1][4] = leaf(1, 8, 3, used)
	p = 512 + 2*64 + 4*8
	f = was.lay(t)
	mustRemove(t, f, 0, p+7, api.Map{Page: p, Size: api.Large, Frame: 8, Rights: 3})
	was.words[1][4] = 0
	mustBe(t, f, was)
}

// Of a table that is led to several times only the entry on the way goes; the others lead to it still.
func TestTableThatIsLedToSeveralTimes(t *testing.T) {
	was := blank(4)
	was.words[0][0] = leads(1)
	was.words[0][7] = leads(1)
	was.words[1][3] = leads(2)
	was.words[1][4] = leads(2)
	was.words[2][6] = leaf(1, 16, 5, used)
	p := 7*512 + 4*64 + 6*8

	f := was.lay(t)
	mustRemove(t, f, 0, p+1, api.Map{Page: p, Size: api.Large, Frame: 16, Rights: 5}, 2)
	want := was.clone()
	want.words[2][6] = 0
	want.words[1][4] = 0
	mustHold(t, f, want)
	mustHaveNone(t, want, 0, 4*64+6*8, api.ErrNone)
	mustHaveNone(t, want, 0, 3*64+6*8, api.ErrNone)
	// What is empty and led to still is a table in the way.
	mustInsert(t, f, 0, api.Map{Page: 3 * 64, Size: api.Huge}, api.ErrThere)
	mustInsert(t, f, 0, api.Map{Page: 3 * 64, Size: api.Large}, 0)
	mustFind(t, f, 0, 7*512+3*64+7, api.Map{Page: 7*512 + 3*64, Size: api.Large}, api.Entry{There: true, Leaf: true})

	// Other rights are seen by each way.
	f = was.lay(t)
	mustProtect(t, f, 0, p, 2, api.Map{Page: p, Size: api.Large, Frame: 16, Rights: 2})
	mustFind(t, f, 0, 3*64+6*8, api.Map{Page: 3*64 + 6*8, Size: api.Large, Frame: 16, Rights: 2}, api.Entry{There: true, Leaf: true, Rights: 2, Used: true, Frame: 16})
}

// askAll asks all there is of frames, with codes and without.
func askAll(f *frames.Frames) {
	numbers := append([]int{0, 1, 2, 3, 4, 8, 64, 645, last, api.Pages}, farOff...)
	for _, root := range numbers {
		for _, p := range numbers {
			for size := -1; size <= top; size++ {
				table.Insert(f, root, api.Map{Page: p, Size: size, Frame: p, Rights: p})
			}
			for _, rights := range numbers {
				table.Protect(f, root, p, rights)
			}
			table.Find(f, root, p)
			table.Remove(f, root, p)
		}
	}
}

// Whatever is asked, no call panics, and two memories that are alike stay so.
func TestAllNumbers(t *testing.T) {
	odd := blank(4, 3)
	odd.words[0] = table8{leads(1), leads(0), 2, leads(3), leaf(1, 64, 7, used)}
	odd.words[1] = table8{leads(2), leads(1), leaf(2, 64, 1, 0), 1 << 40}
	odd.words[2] = table8{leads(0), 0, leaf(1, 1, 1, 0), 0, 0, 0, 0, leads(1)}
	for _, was := range []*memory{blank(0), blank(1), blank(5, 4, 3, 2, 1), odd, wayTo(645, 1, leaf(1, 8, 7, dirty), 2)} {
		f, other := was.lay(t), was.lay(t)
		for range 2 {
			askAll(f)
			askAll(other)
		}
		now := blank(len(was.words))
		for k := range now.words {
			for i := range api.Fan {
				now.words[k][i], _ = other.Load(k, i)
			}
		}
		for k := other.Take(); k >= 0; k = other.Take() {
			now.free = append(now.free, k)
		}
		mustBe(t, f, now)
	}
}

// What was answered stays, whatever is asked of the frames then; and the frames stay, whatever is done to it.
func TestAnswersAreNewMemory(t *testing.T) {
	was := wayTo(645, 0, leaf(0, 9, 3, used), 1)
	f := was.lay(t)
	m, gone, _ := table.Remove(f, 0, 645)
	askAll(f)
	for k := range 5 {
		for i := range api.Fan {
			f.Store(k, i, 2)
		}
		f.Give(k)
	}
	askAll(f)
	if m != (api.Map{Page: 645, Frame: 9, Rights: 3}) || !slices.Equal(gone, []int{3, 2, 1}) {
		t.Errorf("what was answered is %v, %v then", m, gone)
	}

	f = was.lay(t)
	_, gone, _ = table.Remove(f, 0, 645)
	_, other, _ := table.Remove(was.lay(t), 0, 645)
	gone = gone[:cap(gone)]
	for i := range gone {
		gone[i] = -7
	}
	if !slices.Equal(other, []int{3, 2, 1}) {
		t.Errorf("what was answered of other frames is %v then", other)
	}
	for k := range 4 {
		was.words[k] = table8{}
	}
	mustHold(t, f, was)
	mustInsert(t, f, 0, api.Map{Page: 645}, api.ErrFull)
	for k := 1; k < 4; k++ {
		if !f.Give(k) {
			t.Errorf("Give(%d): false", k)
		}
	}
	mustInsert(t, f, 0, api.Map{Page: 645}, 0)
	mustRemove(t, f, 0, 645, api.Map{Page: 645}, 1, 2, 3)
}
