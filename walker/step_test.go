package walker_test

import (
	"testing"

	"wayleave/api"
	"wayleave/walker"
)

// A way that ends with nothing, at each level.
func TestNothing(t *testing.T) {
	for level := range api.Levels {
		for _, p := range somePages {
			m := wayTo(p, level, 0)
			for _, a := range accesses(p) {
				f := m.lay(t)
				k := begun(t, f, a, top-level)
				mustBeOn(t, k, a)
				mustStep(t, k, f, notMapped)
				mustBeOff(t, k, f)
				mustBe(t, f, m)
			}
		}
	}
}

// A way that ends with a leaf: of each size, with all rights and marks, for each access. No word changes but the leaf's, and that one by just its marks, at the step that ends the way.
func TestLeaf(t *testing.T) {
	for level := range top {
		for _, p := range somePages {
			for rights := range 8 {
				for _, mark := range marks {
					was := wayTo(p, level, leaf(level, 128*64, rights, mark))
					for _, a := range accesses(p) {
						mustEndAtLeaf(t, was, a, level, rights, mark)
					}
				}
			}
		}
	}
}

// mustEndAtLeaf fails unless a walk to the leaf, at the frame 128 * 64, ends as the chapter says.
func mustEndAtLeaf(t *testing.T, was *memory, a api.Access, level, rights int, mark uint64) {
	t.Helper()
	f := was.lay(t)
	k := begun(t, f, a, top-level)
	mustBeOn(t, k, a)
	if !lets(rights, a) {
		mustStep(t, k, f, notAllowed)
		mustBeOff(t, k, f)
		mustBe(t, f, was)
		return
	}
	after := mark | wants(a)
	if after != mark {
		mustStep(t, k, f, going)
		mustBeOn(t, k, a)
		mustHold(t, f, was)
	}
	mustStep(t, k, f, done(a.Page, level, 128*64, rights, after&dirty != 0))
	mustBeOff(t, k, f)
	mustBe(t, f, was.with(a.Page, level, leaf(level, 128*64, rights, after)))
}

// The frames of what is mapped go up to MaxData - 1, and have nothing to do with those of tables.
func TestFramesOfLeaves(t *testing.T) {
	for level := range top {
		for _, p := range somePages {
			for _, frame := range []int{0, 64, 128, api.MaxData/2 + 64, api.MaxData - spans[level]} {
				was := wayTo(p, level, leaf(level, frame, 7, 0))
				f := was.lay(t)
				k := begun(t, f, api.Access{Page: p, Kind: api.Write, User: true}, top-level+1)
				mustStep(t, k, f, done(p, level, frame, 7, true))
				mustBe(t, f, was.with(p, level, leaf(level, frame, 7, used|dirty)))
			}
		}
	}
}

// Each page of a leaf has a frame of its own, and all have the line of the one mapping.
func TestPagesOfALeaf(t *testing.T) {
	for level := range top {
		const first = 640
		m := wayTo(first, level, leaf(level, 192, 5, used))
		f := m.lay(t)
		k := walker.New(0)
		for p := first; p < first+spans[level]; p++ {
			mustBegin(t, k, api.Access{Page: p, Kind: api.Run}, 0)
			mustGo(t, k, f, top-level)
			mustStep(t, k, f, done(p, level, 192, 5, false))
		}
		mustBe(t, f, m)
	}
}

// Any frame may be the root, and the tables may stand in any order.
func TestRoots(t *testing.T) {
	const p = 1234
	m := wayTo(p, 0, leaf(0, 9, 7, used))
	for root := range api.Levels {
		turned := m.clone()
		for level, words := range m.words {
			turned.words[(root+3*level)%api.Levels] = words
		}
		for level := range top {
			turned.words[(root+3*level)%api.Levels][place(p, top-level)] = leads((root + 3*level + 3) % api.Levels)
		}
		f := turned.lay(t)
		k := walker.New(root)
		for range 2 {
			mustBegin(t, k, api.Access{Page: p}, 0)
			mustGo(t, k, f, 3)
			mustStep(t, k, f, done(p, 0, 9, 7, false))
		}
		mustBe(t, f, turned)
	}
}

// One word is read at each step, and none ahead of it: what changes ahead of a walk is met as it is then.
func TestOneWordAStep(t *testing.T) {
	const p = 3001
	for level := range api.Levels {
		f := wayTo(p, 0, leaf(0, 9, 7, used)).lay(t)
		k := begun(t, f, api.Access{Page: p}, top-level)
		mustStore(t, f, top-level, place(p, level), 0)
		mustStep(t, k, f, notMapped)

		f = wayTo(p, 0, leaf(0, 9, 7, used)).lay(t)
		k = begun(t, f, api.Access{Page: p}, top-level)
		for behind := top; behind > level; behind-- {
			// What it has behind it is not looked at any more.
			mustStore(t, f, top-behind, place(p, behind), 2)
		}
		mustGo(t, k, f, level)
		mustStep(t, k, f, done(p, 0, 9, 7, false))
	}
}

// wrongWords tells words that entry.Decode does not take at a level, by its code.
func wrongWords(level int) map[int][]uint64 {
	wrong := map[int][]uint64{
		api.ErrBits: {2, 1 << 4, 1 << 5, 1 << 7, 1 << 12, 1 << 63, 1<<64 - 2, 1<<64 - 1, there | 1<<4, there | 1<<8, there | 1<<11, there | 1<<32, leaf(level, 64, 7, 1<<63)},
	}
	switch level {
	case 0:
		wrong[api.ErrBits] = append(wrong[api.ErrBits], there|big, leaf(1, 64, 7, used|dirty))
	case top:
		wrong[api.ErrKind] = []uint64{there | big, leaf(level, 64, 7, used|dirty), leaf(level, 1, 0, 0)}
	default:
		wrong[api.ErrAlign] = []uint64{leaf(level, 1, 7, used|dirty), leaf(level, spans[level]/2, 0, 0), leaf(level, api.MaxData-1, 7, 0)}
	}
	if level > 0 {
		wrong[api.ErrBits] = append(wrong[api.ErrBits], there, there|6<<1, leads(1)|used, leads(1)|dirty, leads(1)&^4)
	}
	return wrong
}

// Words that are none, at each level: their code is told, all is as it was, and a word that is one is read in their place as if they had not been.
func TestWrongWords(t *testing.T) {
	for level := range api.Levels {
		for _, p := range somePages {
			for code, wrong := range wrongWords(level) {
				for _, word := range wrong {
					m := wayTo(p, level, word)
					f := m.lay(t)
					a := api.Access{Page: p, Kind: api.Write}
					k := begun(t, f, a, top-level)
					mustNotStep(t, k, f, code)
					mustBeOn(t, k, a)
					mustBegin(t, k, a, api.ErrBusy)
					mustHold(t, f, m)
					mustStore(t, f, top-level, place(p, level), 0)
					mustStep(t, k, f, notMapped)
					mustBeOff(t, k, f)
					mustBe(t, f, m.with(p, level, 0))
				}
			}
		}
	}
}

func TestRootThatIsNotInUse(t *testing.T) {
	m := wayTo(5, 0, leaf(0, 9, 7, 0))
	m.free = []int{3, 1}
	for _, root := range append([]int{1, 3, 4, 5, 127, 128}, farOff...) {
		for _, a := range accesses(5) {
			f := m.lay(t)
			k := walker.New(root)
			mustBegin(t, k, a, 0)
			mustNotStep(t, k, f, api.ErrFree)
			mustBeOn(t, k, a)
			k.Again()
			mustNotStep(t, k, f, api.ErrFree)
			mustBegin(t, k, a, api.ErrBusy)
			mustBe(t, f, m)
		}
	}
	none := &memory{}
	for _, root := range roots {
		f := none.lay(t)
		k := walker.New(root)
		mustBegin(t, k, api.Access{}, 0)
		mustNotStep(t, k, f, api.ErrFree)
		mustBe(t, f, none)
	}
}

// Words that lead to what is no frame of the memory: the word is taken, and the next step has the code.
func TestLeadsToNoFrame(t *testing.T) {
	const p = 4088
	for level := 1; level <= top; level++ {
		for _, to := range []int{api.Levels, 127, 128, api.MaxData / 2, api.MaxData - 1} {
			m := wayTo(p, level, leads(to))
			f := m.lay(t)
			k := begun(t, f, api.Access{Page: p}, top-level+1)
			mustNotStep(t, k, f, api.ErrFree)
			mustBeOn(t, k, api.Access{Page: p})
			mustBe(t, f, m)
		}
	}
}

// A table that is given back ahead of a read: its code, till it is in use again; then that step reads what stands there.
func TestTableGivenBackAheadOfARead(t *testing.T) {
	const p = 1234
	was := wayTo(p, 0, leaf(0, 9, 7, used))
	a := api.Access{Page: p, User: true}
	for level := range api.Levels {
		table := top - level
		gone := was.clone()
		gone.free = []int{table}

		f := was.lay(t)
		k := begun(t, f, a, table)
		mustGive(t, f, table)
		mustNotStep(t, k, f, api.ErrFree)
		mustBeOn(t, k, a)
		mustBegin(t, k, a, api.ErrBusy)
		mustBe(t, f, gone)
		mustStep(t, k, f, notMapped)
		mustBeOff(t, k, f)

		f = was.lay(t)
		k = begun(t, f, a, table)
		words := mustGive(t, f, table)
		mustNotStep(t, k, f, api.ErrFree)
		mustTake(t, f, table, words)
		mustGo(t, k, f, level)
		mustStep(t, k, f, done(p, 0, 9, 7, false))
		mustBe(t, f, was)
	}
}

// Tables that lead to themselves: each step is a level lower, and at the level 0 the word is a leaf, which is marked like any other.
func TestTableThatLeadsToItself(t *testing.T) {
	for _, p := range []int{0, 0o1111, 0o5555, last} {
		for _, a := range accesses(p) {
			was := &memory{words: make([][api.Fan]uint64, 4)}
			was.words[2][place(p, 0)] = leads(2)
			f := was.lay(t)
			k := walker.New(2)
			mustBegin(t, k, a, 0)
			mustGo(t, k, f, 4)
			mustHold(t, f, was)
			mustStep(t, k, f, done(p, 0, 2, 7, a.Kind == api.Write))
			marked := was.clone()
			marked.words[2][place(p, 0)] = leads(2) | wants(a)
			mustHold(t, f, marked)
			mustBegin(t, k, a, 0)
			mustNotStep(t, k, f, api.ErrBits)
			mustBe(t, f, marked)
		}
	}
}

// A way may go by one table twice, at places that are not the same.
func TestTableMetTwice(t *testing.T) {
	const p = 0o1234
	was := &memory{words: make([][api.Fan]uint64, 2)}
	was.words[0][1], was.words[1][2], was.words[0][3] = leads(1), leads(0), leads(1)
	was.words[1][4] = leaf(0, 77, 1, 0)
	f := was.lay(t)
	k := begun(t, f, api.Access{Page: p, Kind: api.Write}, 4)
	mustStep(t, k, f, done(p, 0, 77, 1, true))
	was.words[1][4] |= used | dirty
	mustBe(t, f, was)
}
