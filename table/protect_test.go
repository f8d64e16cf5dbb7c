package table_test

import (
	"testing"

	"wayleave/api"
)

// Leaves of each size, of all rights and marks, have all other rights, asked by any of their pages; their marks and their frame stay.
func TestProtect(t *testing.T) {
	for size := range top {
		for _, at := range []int{0, 645, 1234, last} {
			for _, frame := range []int{0, 128, api.MaxData - spans[size]} {
				for old := range 8 {
					for _, mark := range marks {
						for rights := range 8 {
							was := wayTo(at, size, leaf(size, frame, old, mark), 1)
							m := aligned(at, size, frame, rights)
							f := was.lay(t)
							mustProtect(t, f, 0, m.Page+spans[size]-1, rights, m)
							mustFind(t, f, 0, m.Page, m, api.Entry{There: true, Leaf: true, Rights: rights, Used: mark&used != 0, Dirty: mark&dirty != 0, Frame: frame})
							mustBe(t, f, wayTo(at, size, leaf(size, frame, rights, mark), 1))
						}
					}
				}
			}
		}
	}
}

// Only the page's own mapping has other rights.
func TestProtectOfOneAmongOthers(t *testing.T) {
	for size := range top {
		was := wayTo(645, size, 0, 0)
		for i := range api.Fan {
			was.words[top-size][i] = leaf(size, 64*i, i, marks[i%4])
		}
		for i := range api.Fan {
			m := aligned(645-645%spans[size+1]+i*spans[size], size, 64*i, 7-i)
			f := was.lay(t)
			mustProtect(t, f, 0, m.Page, 7-i, m)
			want := was.clone()
			want.words[top-size][i] = leaf(size, 64*i, 7-i, marks[i%4])
			mustBe(t, f, want)
		}
	}
}

// All pages of a mapping find it, and no others.
func TestFind(t *testing.T) {
	for size := range top {
		for n := range 32 {
			rights, mark := n%8, marks[n/8]
			m := aligned(1234, size, 192, rights)
			was := wayTo(1234, size, leaf(size, 192, rights, mark), 1)
			f := was.lay(t)
			for p := m.Page; p < m.Page+spans[size]; p++ {
				mustFind(t, f, 0, p, m, api.Entry{There: true, Leaf: true, Rights: rights, Used: mark&used != 0, Dirty: mark&dirty != 0, Frame: 192})
			}
			mustBe(t, f, was)
			if m.Page+spans[size] < api.Pages {
				mustHaveNone(t, was, 0, m.Page+spans[size], api.ErrNone)
			}
			mustHaveNone(t, was, 0, m.Page-1, api.ErrNone)
		}
	}
}

// That rights are none is told ahead of all else.
func TestProtectWithNoRights(t *testing.T) {
	wrong := blank(4, 2)
	for i := range api.Fan {
		wrong.words[0][i] = 2
		wrong.words[1][i] = leads(2)
	}
	pages := append([]int{0, 645, last, api.Pages}, farOff...)
	for _, rights := range noRights {
		for _, root := range []int{0, 1, 2, 3, 4, -1} {
			for _, p := range pages {
				mustNotProtect(t, wrong, root, p, rights, api.ErrRange)
			}
		}
		for size := range top {
			mustNotProtect(t, wayTo(645, size, leaf(size, 64, 3, used), 1), 0, 645, rights, api.ErrRange)
			mustNotProtect(t, wayTo(645, size, 0, 1), 0, 645, rights, api.ErrRange)
		}
	}
}

// That there is no such page is told ahead of what is on the way.
func TestNoSuchPage(t *testing.T) {
	wrong := blank(4, 2)
	for i := range api.Fan {
		wrong.words[0][i] = 2
		wrong.words[1][i] = leads(2)
	}
	for _, p := range append([]int{api.Pages, api.Pages + 1, 2 * api.Pages}, farOff...) {
		for _, root := range append([]int{0, 1, 2, 3, 4}, farOff...) {
			mustHaveNone(t, wrong, root, p, api.ErrRange)
		}
		mustHaveNone(t, wayTo(last, 0, leaf(0, 1, 7, 0), 0), 0, p, api.ErrRange)
		mustHaveNone(t, wayTo(0, 2, leaf(2, 64, 7, 0), 0), 0, p, api.ErrRange)
	}
}
