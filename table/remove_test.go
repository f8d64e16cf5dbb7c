package table_test

import (
	"slices"
	"testing"

	"wayleave/api"
	"wayleave/frames"
	"wayleave/table"
)

// The only mapping goes, asked by any of its pages, and all tables but the root with it, the lowest one first; they are in use still.
func TestRemoveOfTheOnlyMapping(t *testing.T) {
	for size := range top {
		for _, at := range somePages {
			m := aligned(at, size, 64, at%8)
			for p := m.Page; p < m.Page+spans[size]; p += 1 + spans[size]/9 {
				f := wayTo(m.Page, size, leaf(size, 64, at%8, marks[at%4]), 2).lay(t)
				mustRemove(t, f, 0, p, m, []int{3, 2, 1}[size:]...)
				empty := wayTo(m.Page, size, 0, 2)
				for k := range empty.words {
					empty.words[k] = table8{}
				}
				mustBe(t, f, empty)
			}
		}
	}
}

// Tables go in the order of the way, whatever their numbers are; a root of any number stays.
func TestRemoveTellsLowerTablesFirst(t *testing.T) {
	m := blank(8)
	m.words[5][2] = leads(7)
	m.words[7][3] = leads(0)
	m.words[0][2] = leads(3)
	m.words[3][2] = leaf(0, 9, 6, dirty)
	f := m.lay(t)
	mustRemove(t, f, 5, 1234, api.Map{Page: 1234, Frame: 9, Rights: 6}, 3, 0, 7)
	mustHold(t, f, blank(8))
	mustInsert(t, f, 5, api.Map{Page: 1234}, api.ErrFull)
}

// Tables that went are free only when they are given back; given back, they are taken again, the last one first.
func TestTablesThatWentAreInUse(t *testing.T) {
	f, _ := frames.New(4)
	root := f.Take()
	m := api.Map{Page: 5, Frame: 9, Rights: 3}
	mustInsert(t, f, root, m, 0)
	_, gone, _ := table.Remove(f, root, 5)
	if !slices.Equal(gone, []int{3, 2, 1}) || f.Free() != 0 {
		t.Fatalf("gone are %v, free %d", gone, f.Free())
	}
	for _, k := range gone {
		if !f.Taken(k) {
			t.Errorf("the frame %d is not in use", k)
		}
	}
	mustInsert(t, f, root, m, api.ErrFull)
	for _, k := range gone {
		if !f.Give(k) {
			t.Errorf("Give(%d): false", k)
		}
	}
	mustInsert(t, f, root, m, 0)
	want := blank(4)
	want.words[0][0] = leads(1)
	want.words[1][0] = leads(2)
	want.words[2][0] = leads(3)
	want.words[3][5] = leaf(0, 9, 3, 0)
	mustBe(t, f, want)
}

// A table in which another word is stays, and those above it, at each level; be that a leaf, a table or a word that is none.
func TestRemoveWhereATableStays(t *testing.T) {
	for size := range top {
		m := aligned(1234, size, 64, 5)
		for stays := size; stays < api.Levels; stays++ {
			others := []uint64{leads(1), leads(100), 2, 1 << 63, leaf(0, 1, 0, 0)}
			if stays < top {
				others = append(others, leaf(stays, 64, 0, used))
			}
			for _, word := range others {
				for other := range api.Fan {
					if other == place(m.Page, stays) {
						continue
					}
					was := wayTo(m.Page, size, leaf(size, 64, 5, 0), 1)
					was.words[top-stays][other] = word
					f := was.lay(t)
					var gone []int
					for k := top - size; k > top-stays; k-- {
						gone = append(gone, k)
						was.words[k] = table8{}
					}
					was.words[top-stays][place(m.Page, stays)] = 0
					mustRemove(t, f, 0, m.Page, m, gone...)
					mustBe(t, f, was)
				}
			}
		}
	}
}

// Of a full table mappings go one by one, and the table goes with the last one.
func TestRemoveEmptiesATable(t *testing.T) {
	for size := range top {
		was := wayTo(645, size, 0, 0)
		start := 645 - 645%spans[size+1]
		for i := range api.Fan {
			was.words[top-size][i] = leaf(size, 64*i, i, marks[i%4])
		}
		f := was.lay(t)
		for i := range api.Fan {
			at := (5 + i*3) % api.Fan
			var gone []int
			if i == api.Fan-1 {
				gone = []int{3, 2, 1}[size:]
			}
			mustRemove(t, f, 0, start+at*spans[size]+spans[size]-1, api.Map{Page: start + at*spans[size], Size: size, Frame: 64 * at, Rights: at}, gone...)
			was.words[top-size][at] = 0
			if i < api.Fan-1 {
				mustHold(t, f, was)
			}
		}
		mustHold(t, f, blank(len(was.words)))
	}
}

// Empty tables that are not on the way stay, and so do those above the ones that go where they are not empty.
func TestRemoveLeavesEmptyTablesBesideTheWay(t *testing.T) {
	was := wayTo(0, 0, leaf(0, 1, 1, 0), 0)
	was.words = append(was.words, table8{})
	was.words[1][7] = leads(4)
	f := was.lay(t)
	mustRemove(t, f, 0, 0, api.Map{Page: 0, Frame: 1, Rights: 1}, 3, 2)
	want := blank(5)
	want.words[0][0] = leads(1)
	want.words[1][7] = leads(4)
	mustBe(t, f, want)
}

// Without a leaf nothing goes, not even tables that are empty.
func TestRemoveOfNone(t *testing.T) {
	for end := range api.Levels {
		for _, p := range somePages {
			mustHaveNone(t, wayTo(p, end, 0, 2), 0, p, api.ErrNone)
			if end < top {
				was := wayTo(p, end, leaf(end, 64, 7, used), 2)
				mustHaveNone(t, was, 0, p^spans[end], api.ErrNone)
			}
		}
	}
}

// What was inserted goes, and all is as it was, for all sizes and wherever the ways part.
func TestInsertAndRemove(t *testing.T) {
	for size := range top {
		for parts := size; parts < api.Levels; parts++ {
			m := aligned(1234^spans[parts], size, 64, 3)
			was := wayTo(1234, 0, leaf(0, 7, 7, dirty), 4)
			f := was.lay(t)
			mustInsert(t, f, 0, m, 0)
			var gone []int
			for k := parts - size; k > 0; k-- {
				gone = append(gone, 3+k)
			}
			mustRemove(t, f, 0, m.Page, m, gone...)
			for _, k := range gone {
				f.Give(k)
			}
			mustBe(t, f, was)
		}
	}
}
