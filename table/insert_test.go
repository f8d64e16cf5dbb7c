package table_test

import (
	"testing"

	"wayleave/api"
	"wayleave/frames"
)

// Into an empty root mappings of each size take the tables that they want, and no more.
func TestInsertIntoEmptyRoot(t *testing.T) {
	for size := range top {
		for _, p := range somePages {
			for rights := range 8 {
				for _, frame := range []int{0, 64, api.MaxData - spans[size]} {
					m := aligned(p, size, frame, rights)
					f := blank(6, 1, 2, 3, 4, 5).lay(t)
					mustInsert(t, f, 0, m, 0)
					mustBe(t, f, wayTo(m.Page, size, leaf(size, frame, rights, 0), 2+size))
					e := api.Entry{There: true, Leaf: true, Rights: rights, Frame: frame}
					f = blank(4, 1, 2, 3).lay(t)
					mustInsert(t, f, 0, m, 0)
					mustFind(t, f, 0, p, m, e)
				}
			}
		}
	}
}

// Tables are taken from the higher ones to the lower ones, whatever their numbers are.
func TestInsertTakesHigherTablesFirst(t *testing.T) {
	f := blank(8, 7, 2, 5, 0).lay(t)
	mustInsert(t, f, 4, api.Map{Page: 1234, Frame: 9, Rights: 6}, 0)
	want := blank(8, 0)
	want.words[4][2] = leads(7)
	want.words[7][3] = leads(2)
	want.words[2][2] = leads(5)
	want.words[5][2] = leaf(0, 9, 6, 0)
	mustBe(t, f, want)

	// The one that was given back last, then those that were never in use.
	f, _ = frames.New(6)
	f.Take()
	root, other := f.Take(), f.Take()
	f.Store(0, 3, 2)
	f.Give(0)
	mustInsert(t, f, root, api.Map{Page: last, Frame: 1}, 0)
	want = blank(6, 5)
	want.words[root][7] = leads(0)
	want.words[0][7] = leads(3)
	want.words[3][7] = leads(4)
	want.words[4][7] = leaf(0, 1, 0, 0)
	mustHold(t, f, want)
	if !f.Taken(other) {
		t.Errorf("the frame %d is not in use any more", other)
	}
}

// A second mapping takes tables only from where its way parts from that of the first one on.
func TestInsertWhereTablesAre(t *testing.T) {
	first := api.Map{Page: 645, Frame: 3, Rights: 1}
	for size := range top {
		for parts := size; parts < api.Levels; parts++ {
			// The way of this page parts from that of the first one in the table of the level.
			second := aligned(first.Page^spans[parts], size, 64, 5)
			m := wayTo(first.Page, 0, leaf(0, 3, 1, 0), 5)
			f := m.lay(t)
			mustInsert(t, f, 0, second, 0)
			from, way := top-parts, place(second.Page, parts)
			for level := parts - 1; level >= size; level-- {
				next := m.free[0]
				m.free = m.free[1:]
				m.words[from][way] = leads(next)
				from, way = next, place(second.Page, level)
			}
			m.words[from][way] = leaf(size, 64, 5, 0)
			mustHold(t, f, m)
			mustFind(t, f, 0, 645, first, api.Entry{There: true, Leaf: true, Rights: 1, Frame: 3})
			mustFind(t, f, 0, second.Page, second, api.Entry{There: true, Leaf: true, Rights: 5, Frame: 64})
			mustBe(t, f, m)
		}
	}
}

// Side by side, mappings of one size fill a table of each level, and want no other.
func TestInsertFillsATable(t *testing.T) {
	for size := range top {
		m := wayTo(2048, size, 0, 0)
		f := m.lay(t)
		for i := range api.Fan {
			at := (i * 3) % api.Fan
			mustInsert(t, f, 0, api.Map{Page: 2048 + at*spans[size], Size: size, Frame: 64 * i, Rights: i}, 0)
			m.words[top-size][at] = leaf(size, 64*i, i, 0)
		}
		mustHold(t, f, m)
		for i := range api.Fan {
			mustInsert(t, f, 0, api.Map{Page: 2048 + i*spans[size], Size: size}, api.ErrThere)
		}
		mustBe(t, f, m)
	}
}

// Within a mapping, over it and round it there can be none, of whatever size.
func TestInsertWhereAMappingIs(t *testing.T) {
	for size := range top {
		for _, p := range []int{0, 645, 1234, 2048, last} {
			was := wayTo(p, size, leaf(size, 64, 2, used), 3)
			for other := range top {
				wide := max(spans[size], spans[other])
				for q := p - p%wide; q < p-p%wide+wide; q += spans[other] {
					if q/spans[size] == p/spans[size] || q/spans[other] == p/spans[other] {
						mustNotInsert(t, was, 0, api.Map{Page: q, Size: other, Frame: 128}, api.ErrThere)
					}
				}
			}
		}
	}
}

// Pages next to a mapping, ahead of it and behind it, may have mappings of all sizes that do not meet it.
func TestInsertNextToAMapping(t *testing.T) {
	for size := range top {
		at := 2048 + 64
		for other := range top {
			f := wayTo(at, size, leaf(size, 64, 2, 0), 6).lay(t)
			ahead := api.Map{Page: at - spans[other], Size: other, Frame: 128, Rights: 1}
			behind := api.Map{Page: at + max(spans[size], spans[other]), Size: other, Frame: 192, Rights: 4}
			mustInsert(t, f, 0, ahead, 0)
			mustInsert(t, f, 0, behind, 0)
			for _, m := range []api.Map{ahead, behind, {Page: at, Size: size, Frame: 64, Rights: 2}} {
				mustFind(t, f, 0, m.Page+spans[m.Size]-1, m, api.Entry{There: true, Leaf: true, Rights: m.Rights, Frame: m.Frame})
			}
		}
	}
}

// A table where the leaf is to stand is in its way, also where nothing is in it, or nothing on the way.
func TestInsertWhereATableIs(t *testing.T) {
	for size := api.Large; size < top; size++ {
		for _, p := range []int{0, 645, last} {
			for end := range size {
				mustNotInsert(t, wayTo(p, end, 0, 3), 0, aligned(p, size, 0, 7), api.ErrThere)
				beside := wayTo(p, end, leaf(end, 64, 1, 0), 3)
				q := p ^ spans[end]
				mustNotInsert(t, beside, 0, aligned(q, size, 0, 7), api.ErrThere)
			}
		}
	}
}

// There are as many free frames as tables are wanting, or one less, or none.
func TestInsertIntoFewFrames(t *testing.T) {
	for size := range top {
		for end := size; end < api.Levels; end++ {
			wanting := end - size
			for _, p := range []int{0, 645, last} {
				m := aligned(p, size, 64, 3)
				f := wayTo(m.Page, end, 0, wanting).lay(t)
				mustInsert(t, f, 0, m, 0)
				mustBe(t, f, wayTo(m.Page, size, leaf(size, 64, 3, 0), 0))
				for spare := range wanting {
					mustNotInsert(t, wayTo(m.Page, end, 0, spare), 0, m, api.ErrFull)
				}
			}
		}
	}
}

// Behind ErrFull, Take tells what it would have told, of frames that were given back and of those that never were in use.
func TestTakeBehindFull(t *testing.T) {
	for given := range 3 {
		f, _ := frames.New(5)
		for range 5 - 2 + given {
			f.Take()
		}
		want := []int{0, 1}[:given]
		for k := range given {
			f.Give(given - 1 - k)
		}
		for k := 3 + given; k < 5; k++ {
			want = append(want, k)
		}
		for range 2 {
			mustInsert(t, f, 2, api.Map{Page: 77}, api.ErrFull)
			mustInsert(t, f, 2, api.Map{Page: last}, api.ErrFull)
		}
		for _, k := range append(want, -1) {
			if got := f.Take(); got != k {
				t.Errorf("%d given back: Take: %d, want %d", given, got, k)
			}
		}
	}
}

// What is no mapping is told by its own code, ahead of all that is so of the way.
func TestInsertOfNoMapping(t *testing.T) {
	wrong := blank(3, 2)
	for i := range api.Fan {
		wrong.words[0][i] = 2
		wrong.words[1][i] = leads(2)
	}
	for _, root := range []int{0, 1, 2, 3, -1} {
		for _, x := range farOff {
			mustNotInsert(t, wrong, root, api.Map{Size: x}, api.ErrKind)
			mustNotInsert(t, wrong, root, api.Map{Page: x, Size: 3, Frame: x, Rights: x}, api.ErrKind)
			for size := range top {
				mustNotInsert(t, wrong, root, api.Map{Page: x, Size: size}, api.ErrRange)
				mustNotInsert(t, wrong, root, api.Map{Size: size, Frame: x}, api.ErrRange)
				mustNotInsert(t, wrong, root, api.Map{Size: size, Rights: x}, api.ErrRange)
			}
		}
		mustNotInsert(t, wrong, root, api.Map{Size: 3}, api.ErrKind)
		mustNotInsert(t, wrong, root, api.Map{Page: api.Pages}, api.ErrRange)
		mustNotInsert(t, wrong, root, api.Map{Rights: 8}, api.ErrRange)
		mustNotInsert(t, wrong, root, api.Map{Page: 4, Size: api.Large, Frame: api.MaxData}, api.ErrRange)
		mustNotInsert(t, wrong, root, api.Map{Page: 4, Size: api.Large}, api.ErrAlign)
		mustNotInsert(t, wrong, root, api.Map{Frame: 4, Size: api.Large}, api.ErrAlign)
		mustNotInsert(t, wrong, root, api.Map{Page: 8, Size: api.Huge}, api.ErrAlign)
		mustNotInsert(t, wrong, root, api.Map{Frame: 8, Size: api.Huge}, api.ErrAlign)
	}
}

// The way's code is told ahead of ErrThere, also where it is met below the level of the size; and ErrThere ahead of ErrFull.
func TestInsertTellsTheFirstCode(t *testing.T) {
	for size := range top {
		m := aligned(645, size, 64, 1)
		for end := range api.Levels {
			mustNotInsert(t, wayTo(m.Page, end, 2, 0), 0, m, api.ErrBits)
			mustNotInsert(t, wayTo(m.Page, end, 2, 3), 0, m, api.ErrBits)
			if end > 0 {
				mustNotInsert(t, wayTo(m.Page, end, leads(100), 0), 0, m, api.ErrFree)
			}
			if end > 0 && end < top {
				mustNotInsert(t, wayTo(m.Page, end, leaf(end, 1, 7, 0), 0), 0, m, api.ErrAlign)
			}
			if end < top {
				mustNotInsert(t, wayTo(m.Page, end, leaf(end, 64, 7, 0), 0), 0, m, api.ErrThere)
			}
			if end < size {
				mustNotInsert(t, wayTo(m.Page, end, 0, 0), 0, m, api.ErrThere)
			}
			if end > size {
				mustNotInsert(t, wayTo(m.Page, end, 0, 0), 0, m, api.ErrFull)
			}
		}
		mustNotInsert(t, wayTo(m.Page, top, big|there, 3), 0, m, api.ErrKind)
	}
}

// Words that are not on the way to its Page are not looked at, be they wrong.
func TestInsertBesideWrongWords(t *testing.T) {
	for size := range top {
		m := aligned(645, size, 64, 1)
		was := wayTo(m.Page, size, 0, 0)
		for k, words := range was.words {
			for i, word := range words {
				if word == 0 && i != place(m.Page, top-k) {
					was.words[k][i] = []uint64{2, leads(100)}[i%2]
				}
			}
		}
		f := was.lay(t)
		mustInsert(t, f, 0, m, 0)
		was.words[top-size][place(m.Page, size)] = leaf(size, 64, 1, 0)
		mustBe(t, f, was)
	}
}
