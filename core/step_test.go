package core_test

import (
	"testing"

	"wayleave/api"
	"wayleave/core"
	"wayleave/tlb"
)

// A walk that ends at a leaf of each level, with all rights and marks: Done, and its line is kept, Dirty as the leaf is then; or NotAllowed, and nothing more is kept.
func TestWalkEndsAtALeaf(t *testing.T) {
	before := row(2000, 2)
	for level := range top {
		for _, p := range []int{0, 645, last} {
			for rights := range 8 {
				for _, mark := range marks {
					was := wayTo(p, level, leaf(level, 128*64, rights, mark))
					for _, a := range accesses(p) {
						mustEndAtLeaf(t, was, a, level, rights, mark, before)
					}
				}
			}
		}
	}
}

func mustEndAtLeaf(t *testing.T, was *memory, a api.Access, level, rights int, mark uint64, before []tlb.Line) {
	t.Helper()
	f := was.lay(t)
	c := begun(t, f, a, top-level, before...)
	mustBeBusy(t, c, a)
	if !lets(rights, a) {
		mustStep(t, c, f, notAllowed)
		mustBeIdle(t, c)
		mustKeep(t, c, before...)
		mustBe(t, f, was)
		return
	}
	after := mark | wants(a)
	if after != mark {
		mustGo(t, c, f, 1)
		mustBeBusy(t, c, a)
		mustHold(t, f, was)
	}
	end := done(128*64+a.Page%spans[level], rights)
	mustStep(t, c, f, end)
	mustBeIdle(t, c)
	mustKeep(t, c, append(before[:len(before):len(before)], line(a.Page, level, 128*64, rights, after&dirty != 0))...)
	mustBe(t, f, was.with(a.Page, level, leaf(level, 128*64, rights, after)))
	mustBegin(t, c, a, end)
}

// A walk that ends where nothing is mapped, at each level: nothing more is kept, and the next access walks again.
func TestWalkEndsWhereNothingIsMapped(t *testing.T) {
	for level := range api.Levels {
		for _, p := range somePages {
			was := wayTo(p, level, 0)
			f := was.lay(t)
			for _, before := range [][]tlb.Line{nil, row(2000, 2), row(2000, api.MaxTLB)} {
				c := keeping(t, before...)
				for _, a := range accesses(p) {
					mustBegin(t, c, a, going)
					mustGo(t, c, f, top-level)
					mustBeBusy(t, c, a)
					mustStep(t, c, f, notMapped)
					mustBeIdle(t, c)
				}
				mustKeep(t, c, before...)
			}
			mustBe(t, f, was)
		}
	}
}

// A line of the page 0 at the frame 0 with no rights is one like all others: it is kept when its walk has ended, and not ahead of it.
func TestLineOfNoughts(t *testing.T) {
	for level := range top {
		was := wayTo(0, level, leaf(level, 0, 0, 0))
		f := was.lay(t)
		c := begun(t, f, api.Access{}, top-level+1)
		mustKeep(t, c)
		mustStep(t, c, f, done(0, 0))
		mustKeep(t, c, line(0, level, 0, 0, false))
		mustBegin(t, c, api.Access{}, done(0, 0))
		mustBegin(t, c, api.Access{User: true}, notAllowed)
		mustBe(t, f, was.with(0, level, leaf(level, 0, 0, used)))
	}
}

// A Write by a line that is not Dirty: its walk begins, the line is kept meanwhile, and gives way to one that is Dirty, the youngest one.
func TestWriteByALineThatIsNotDirty(t *testing.T) {
	for level := range top {
		for _, p := range []int{0, 640, last} {
			for _, user := range []bool{false, true} {
				clean := line(p, level, 64, 3, false)
				others := row(2000, 2)
				was := wayTo(p, level, leaf(level, 64, 3, used))
				f := was.lay(t)
				a := api.Access{Page: p, Kind: api.Write, User: user}
				c := begun(t, f, a, top-level+1, others[0], clean, others[1])
				mustBeBusy(t, c, a)
				mustKeep(t, c, others[0], clean, others[1])
				mustHold(t, f, was)
				mustStep(t, c, f, done(64+p%spans[level], 3))
				soiled := clean
				soiled.Dirty = true
				mustKeep(t, c, others[0], others[1], soiled)
				mustBe(t, f, was.with(p, level, leaf(level, 64, 3, used|dirty)))
				mustBegin(t, c, a, done(64+p%spans[level], 3))
				mustBegin(t, c, api.Access{Page: p}, done(64+p%spans[level], 3))
				mustBeIdle(t, c)
			}
		}
	}
}

// A Write by a line that is not Dirty whose walk ends otherwise: what was kept is kept still, and a Write walks again.
func TestWriteByALineThatIsOver(t *testing.T) {
	const p = 640
	clean := line(p, 1, 64, 3, false)
	a := api.Access{Page: p + 3, Kind: api.Write}
	for _, x := range []struct {
		level int
		word  uint64
		end   told
	}{
		{3, 0, notMapped}, {2, 0, notMapped}, {1, 0, notMapped}, {0, 0, notMapped},
		{2, leaf(2, 64, 6, used|dirty), notAllowed}, {1, leaf(1, 64, 2, used), notAllowed}, {0, leaf(0, 64, 0, 0), notAllowed},
	} {
		was := wayTo(p+3, x.level, x.word)
		f := was.lay(t)
		c := keeping(t, clean)
		for range 2 {
			mustBegin(t, c, a, going)
			mustGo(t, c, f, top-x.level)
			mustStep(t, c, f, x.end)
			mustBeIdle(t, c)
			mustKeep(t, c, clean)
			mustBegin(t, c, api.Access{Page: p + 3}, done(64+3, 3))
			mustBegin(t, c, api.Access{Page: p + 3, Kind: api.Run}, notAllowed)
		}
		mustBe(t, f, was)
	}
}

// A Write by a line that is not Dirty whose walk finds another leaf, of each size: its line is kept, in the place of all that it meets.
func TestWriteFindsAnotherLeaf(t *testing.T) {
	const p = 645
	for level := range top {
		for size := range top {
			clean, beside := line(p, size, 64, 3, false), line(700, api.Small, 5, 7, true)
			was := wayTo(p, level, leaf(level, 192, 7, dirty))
			f := was.lay(t)
			found := line(p, level, 192, 7, true)
			var want []tlb.Line
			lines := []tlb.Line{clean}
			if size < 2 {
				lines = append(lines, beside)
			}
			if size < 2 && level < 2 {
				want = append(want, beside)
			}
			c := begun(t, f, api.Access{Page: p, Kind: api.Write}, top-level+1, lines...)
			mustStep(t, c, f, done(192+p%spans[level], 7))
			mustKeep(t, c, append(want, found)...)
			mustBe(t, f, was.with(p, level, leaf(level, 192, 7, used|dirty)))
		}
	}
}

// A walk whose line meets lines that are kept: none of them, one, several, all; these go, and the others stay in their order.
func TestWalkMeetsLines(t *testing.T) {
	a, b, c, d := line(64, api.Small, 1, 7, true), line(72, api.Large, 8, 7, false), line(127, api.Small, 2, 7, true), line(128, api.Huge, 64, 7, false)
	for _, x := range []struct {
		found tlb.Line
		want  []tlb.Line
	}{
		{line(63, api.Small, 320, 7, false), []tlb.Line{a, d, b, c}},
		{line(65, api.Small, 320, 7, false), []tlb.Line{a, d, b, c}},
		{line(80, api.Large, 320, 7, true), []tlb.Line{a, d, b, c}},
		{line(192, api.Huge, 320, 7, true), []tlb.Line{a, d, b, c}},
		{line(64, api.Large, 320, 7, false), []tlb.Line{d, b, c}},
		{line(120, api.Large, 320, 7, true), []tlb.Line{a, d, b}},
		{line(64, api.Huge, 320, 7, true), []tlb.Line{d}},
	} {
		k := keeping(t, a, d, b, c)
		mustWalk(t, k, x.found)
		mustKeep(t, k, append(x.want, x.found)...)
	}
	k := keeping(t, a, b, c)
	mustWalk(t, k, line(64, api.Huge, 320, 7, false))
	mustKeep(t, k, line(64, api.Huge, 320, 7, false))
}

// From MaxTLB lines on, each walk that is Done costs the oldest one.
func TestWalkWhereMaxAreKept(t *testing.T) {
	lines := row(100, 3*api.MaxTLB)
	c := core.New(0)
	for n, l := range lines {
		mustWalk(t, c, l)
		mustKeep(t, c, lines[max(0, n+1-api.MaxTLB):n+1]...)
	}
}

// Where MaxTLB lines are kept and one of them is met, no other goes.
func TestWalkMeetsOneWhereMaxAreKept(t *testing.T) {
	for i := range api.MaxTLB {
		var lines []tlb.Line
		for n := range api.MaxTLB {
			lines = append(lines, line(8*n+1, api.Small, 100+n, 7, false))
		}
		c := keeping(t, lines...)
		found := line(8*i, api.Large, 64, 5, i%2 == 0)
		mustWalk(t, c, found)
		mustKeep(t, c, append(without(lines, i), found)...)
	}
}

func TestStepOffTheWay(t *testing.T) {
	was := wayTo(5, 0, leaf(0, 9, 7, 0))
	for _, lines := range [][]tlb.Line{nil, row(100, 1), row(100, api.MaxTLB)} {
		f := was.lay(t)
		c := keeping(t, lines...)
		mustNotStep(t, c, f, api.ErrIdle)
		mustBeIdle(t, c)
		if len(lines) > 0 {
			mustBegin(t, c, api.Access{Page: 100, Kind: api.Write}, done(1000, 7))
			mustNotStep(t, c, f, api.ErrIdle)
		}
		mustKeep(t, c, lines...)
		mustBe(t, f, was)
	}
}

// Behind a walk that has ended, however it did, the next one begins at the root.
func TestBeginBehindAnEnd(t *testing.T) {
	const p, other = 645, 3000
	for _, x := range []struct {
		word  uint64
		steps int
		end   told
	}{
		{0, 2, notMapped},
		{leaf(1, 64, 6, 0), 2, notAllowed},
		{leaf(1, 64, 7, used|dirty), 2, done(64+p%8, 7)},
		{leaf(1, 64, 7, used), 3, done(64+p%8, 7)},
	} {
		was := wayTo(p, 1, x.word)
		was.words[0][place(other, top)] = 0
		f := was.lay(t)
		c := begun(t, f, api.Access{Page: p, Kind: api.Write}, x.steps)
		mustStep(t, c, f, x.end)
		mustBeIdle(t, c)
		mustBegin(t, c, api.Access{Page: other, User: true}, going)
		mustBeBusy(t, c, api.Access{Page: other, User: true})
		mustStep(t, c, f, notMapped)
		mustBeIdle(t, c)
	}
}

func TestRootThatIsNotInUse(t *testing.T) {
	m := wayTo(5, 0, leaf(0, 9, 7, 0))
	m.free = []int{3, 1}
	for _, root := range append([]int{1, 3, 4, 5, 127, 128}, farOff...) {
		for _, a := range accesses(5) {
			f := m.lay(t)
			c := core.New(root)
			mustBegin(t, c, a, going)
			mustNotStep(t, c, f, api.ErrFree)
			mustBeBusy(t, c, a)
			c.Told(api.Map{Page: 5})
			mustNotStep(t, c, f, api.ErrFree)
			mustBegin(t, c, a, fails(api.ErrBusy))
			mustBeBusy(t, c, a)
			mustKeep(t, c)
			mustBe(t, f, m)
		}
	}
}

// Any frame may be the root.
func TestRoots(t *testing.T) {
	for root := range api.Levels {
		m := &memory{words: make([][api.Fan]uint64, api.Levels)}
		low := (root + 1) % api.Levels
		m.words[root][1] = leads(low)
		m.words[low][2] = leaf(2, 64, 7, used)
		f := m.lay(t)
		c := core.New(root)
		mustBegin(t, c, api.Access{Page: 645}, going)
		mustGo(t, c, f, 1)
		mustStep(t, c, f, done(64+5, 7))
		mustKeep(t, c, line(640, api.Huge, 64, 7, false))
		mustBe(t, f, m)
	}
}

// wrongWords tells words that entry.Decode does not take at a level, by its code.
func wrongWords(level int) map[int][]uint64 {
	wrong := map[int][]uint64{
		api.ErrBits: {2, 1 << 4, 1 << 5, 1 << 7, 1 << 12, 1 << 63, 1<<64 - 1, there | 1<<4, there | 1<<8, there | 1<<32, leaf(level, 64, 7, 1<<63)},
	}
	switch level {
	case 0:
		wrong[api.ErrBits] = append(wrong[api.ErrBits], there|isALeaf)
	case top:
		wrong[api.ErrKind] = []uint64{there | isALeaf, leaf(level, 64, 7, used|dirty)}
	default:
		wrong[api.ErrAlign] = []uint64{leaf(level, 1, 7, used|dirty), leaf(level, api.MaxData-1, 7, 0)}
	}
	if level > 0 {
		wrong[api.ErrBits] = append(wrong[api.ErrBits], there, leads(1)|used, leads(1)|dirty, leads(1)&^4)
	}
	return wrong
}

// Words that are none, at each level: their code is told, and all is as it was, of what is kept, of the walk and of the words.
func TestWrongWords(t *testing.T) {
	lines := []tlb.Line{line(0, api.Small, 0, 0, false), line(1234, api.Small, 5, 7, false), line(3000, api.Huge, 64, 7, true)}
	const p = 1234
	a := api.Access{Page: p, Kind: api.Write}
	for level := range api.Levels {
		for code, wrong := range wrongWords(level) {
			for _, word := range wrong {
				m := wayTo(p, level, word)
				f := m.lay(t)
				c := begun(t, f, a, top-level, lines...)
				mustNotStep(t, c, f, code)
				mustBeBusy(t, c, a)
				mustKeep(t, c, lines...)
				mustBegin(t, c, a, fails(api.ErrBusy))
				mustHold(t, f, m)
				mustStore(t, f, top-level, place(p, level), 0)
				mustStep(t, c, f, notMapped)
				mustBeIdle(t, c)
				mustKeep(t, c, lines...)
				mustBe(t, f, m.with(p, level, 0))
			}
		}
	}
}

// A table that is given back, ahead of a read or of the mark: its code, and all is as it was; when it is in use again, that step goes on.
func TestTableGivenBack(t *testing.T) {
	const p = 1234
	was := wayTo(p, 0, leaf(0, 9, 7, 0))
	a := api.Access{Page: p, Kind: api.Write}
	lines := row(1230, 5)
	lines[4].Dirty = false // of the page 1234
	for steps := range 5 {
		table := min(steps, top)
		gone := was.clone()
		gone.free = []int{table}
		f := was.lay(t)
		c := begun(t, f, a, steps, lines...)
		words := mustGive(t, f, table)
		mustNotStep(t, c, f, api.ErrFree)
		mustBeBusy(t, c, a)
		mustKeep(t, c, lines...)
		mustHold(t, f, gone)
		mustTake(t, f, table, words)
		mustGo(t, c, f, 4-steps)
		mustStep(t, c, f, done(9, 7))
		mustKeep(t, c, append(without(lines, 4), line(p, 0, 9, 7, true))...)
		mustBe(t, f, was.with(p, 0, leaf(0, 9, 7, used|dirty)))
	}
}

// A word that is another one by the time it is to be marked: the walk begins again, at the root, and what is kept is what it finds then.
func TestAnotherWordAheadOfTheMark(t *testing.T) {
	const p = 645
	lines := row(100, 3)
	for level := range top {
		was := wayTo(p, level, leaf(level, 64, 7, 0))
		now := was.with(p, level, leaf(level, 128, 3, 0))
		f := was.lay(t)
		c := begun(t, f, api.Access{Page: p}, top-level+1, lines...)
		mustStore(t, f, top-level, place(p, level), leaf(level, 128, 3, 0))
		mustGo(t, c, f, 1+top-level+1)
		mustHold(t, f, now)
		mustStep(t, c, f, done(128+p%spans[level], 3))
		mustKeep(t, c, append(lines[:3:3], line(p, level, 128, 3, false))...)
		mustBe(t, f, now.with(p, level, leaf(level, 128, 3, used)))
	}
}
