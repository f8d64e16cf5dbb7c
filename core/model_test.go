package core_test

import (
	"slices"
	"testing"

	"wayleave/api"
	"wayleave/core"
	"wayleave/entry"
	"wayleave/frames"
	"wayleave/tlb"
)

// twin is frames, and what they are to be.
type twin struct {
	f *frames.Frames
	m *memory
}

func (b *twin) store(t *testing.T, k, i int, word uint64) {
	t.Helper()
	if got, want := b.f.Store(k, i, word), b.m.taken(k); got != want {
		t.Fatalf("Store(%d, %d, %#x): %v, want %v", k, i, word, got, want)
	}
	if b.m.taken(k) {
		b.m.words[k][i] = word
	}
}

func (b *twin) give(t *testing.T, k int) {
	t.Helper()
	if got, want := b.f.Give(k), b.m.taken(k); got != want {
		t.Fatalf("Give(%d): %v, want %v", k, got, want)
	}
	if b.m.taken(k) {
		b.m.free = slices.Insert(b.m.free, 0, k)
	}
}

func (b *twin) take(t *testing.T) {
	t.Helper()
	want := -1
	if len(b.m.free) > 0 {
		want = b.m.free[0]
		b.m.free = b.m.free[1:]
		b.m.words[want] = [api.Fan]uint64{}
	}
	if k := b.f.Take(); k != want {
		t.Fatalf("Take: %d, want %d", k, want)
	}
}

// model says what the chapters say of a core: the lines that it keeps, and all that its walk has read since the root: a table for each level, and the word of the leaf, if there is one.
type model struct {
	root   int
	lines  []tlb.Line
	on     bool
	a      api.Access
	tables []int
	leaf   []uint64
}

func (c *model) begin(a api.Access) told {
	switch {
	case a.Kind < 0 || a.Kind > 2:
		return fails(api.ErrKind)
	case a.Page < 0 || a.Page >= api.Pages:
		return fails(api.ErrRange)
	case c.on:
		return fails(api.ErrBusy)
	}
	for _, l := range c.lines {
		switch {
		case !has(l.M, a.Page):
		case !lets(l.M.Rights, a):
			return notAllowed
		case a.Kind != api.Write || l.Dirty:
			return done(l.M.Frame+a.Page-l.M.Page, l.M.Rights)
		}
	}
	c.on, c.a = true, a
	c.again()
	return going
}

func (c *model) again() {
	c.tables, c.leaf = []int{c.root}, nil
}

func (c *model) told(m api.Map) {
	c.lines = left(c.lines, m)
	c.again()
}

func (c *model) evict() bool {
	if len(c.lines) == 0 {
		return false
	}
	c.lines = c.lines[1:]
	return true
}

func (c *model) step(m *memory) told {
	if !c.on {
		return fails(api.ErrIdle)
	}
	table, level := c.tables[len(c.tables)-1], api.Levels-len(c.tables)
	if !m.taken(table) {
		return fails(api.ErrFree)
	}
	word := &m.words[table][place(c.a.Page, level)]
	if len(c.leaf) > 0 {
		if *word != c.leaf[0] {
			c.again()
			return going
		}
		*word |= wants(c.a)
		return c.keep(*word, level)
	}
	e, code := entry.Decode(*word, level)
	switch {
	case code != 0:
		return fails(code)
	case !e.There:
		return c.off(notMapped)
	case !e.Leaf:
		c.tables = append(c.tables, e.Frame)
		return going
	case !lets(e.Rights, c.a):
		return c.off(notAllowed)
	case *word&wants(c.a) != wants(c.a):
		c.leaf = []uint64{*word}
		return going
	}
	return c.keep(*word, level)
}

// keep ends the way at the word of a leaf, the line of which is kept.
func (c *model) keep(word uint64, level int) told {
	l := line(c.a.Page, level, int(word>>12), int(word>>1&7), word&dirty != 0)
	c.lines = append(left(c.lines, l.M), l)
	c.lines = c.lines[max(0, len(c.lines)-6):]
	return c.off(byLine(l, c.a))
}

func (c *model) off(end told) told {
	c.on, c.a = false, api.Access{}
	return end
}

// pair is a core, and what it is to be.
type pair struct {
	c *core.Core
	m *model
}

func newPair(root int) pair {
	return pair{core.New(root), &model{root: root}}
}

func (x pair) begin(t *testing.T, a api.Access) told {
	t.Helper()
	want := x.m.begin(a)
	mustBegin(t, x.c, a, want)
	return want
}

func (x pair) step(t *testing.T, b *twin) told {
	t.Helper()
	want := x.m.step(b.m)
	mustStep(t, x.c, b.f, want)
	return want
}

func (x pair) told(m api.Map) {
	x.c.Told(m)
	x.m.told(m)
}

func (x pair) evict(t *testing.T) {
	t.Helper()
	mustEvict(t, x.c, x.m.evict())
}

func (x pair) mustBeAlike(t *testing.T) {
	t.Helper()
	if x.c.Busy() != x.m.on || x.c.Access() != x.m.a {
		t.Fatalf("on its way: %v, %v, want %v, %v", x.c.Busy(), x.c.Access(), x.m.on, x.m.a)
	}
	mustSameList(t, "List", x.c.List(), x.m.lines)
}

// outcome is what a call came to, in short.
type outcome struct {
	ended     bool
	end, code int
}

// count tells how often each outcome was told.
type count map[outcome]int

func (n count) add(x told) {
	n[outcome{x.ended, x.a.End, x.code}]++
}

func (n count) mustHave(t *testing.T, what string, all ...outcome) {
	t.Helper()
	for _, o := range all {
		if n[o] == 0 {
			t.Errorf("%s never told %v; %v", what, o, n)
		}
	}
}

// The ways in which a call goes on, and those in which it ends an access.
var (
	goesOn       = outcome{}
	isDone       = outcome{true, api.Done, 0}
	isNotMapped  = outcome{true, api.NotMapped, 0}
	isNotAllowed = outcome{true, api.NotAllowed, 0}
)

func hasCode(code int) outcome {
	return outcome{false, 0, code}
}

// TestEveryOrder goes through all orders of four calls and changes out of many, of two cores in one memory, some steps from the root and with some lines.
func TestEveryOrder(t *testing.T) {
	const p, level = 645, 2
	end := place(p, level)
	read := leaf(level, 64, 5, 0)
	begins, steps := count{}, count{}
	calls := []func(j, k pair, b *twin){
		func(j, k pair, b *twin) { steps.add(j.step(t, b)) },
		func(j, k pair, b *twin) { steps.add(k.step(t, b)) },
		func(j, k pair, b *twin) { begins.add(j.begin(t, api.Access{Page: p})) },
		func(j, k pair, b *twin) { begins.add(j.begin(t, api.Access{Page: p, Kind: api.Write})) },
		func(j, k pair, b *twin) { begins.add(j.begin(t, api.Access{Page: p, User: true})) },
		func(j, k pair, b *twin) { begins.add(j.begin(t, api.Access{Page: p, Kind: 3})) },
		func(j, k pair, b *twin) { j.told(api.Map{Page: p}) },
		func(j, k pair, b *twin) { j.told(api.Map{Page: 5}) },
		func(j, k pair, b *twin) { j.evict(t) },
		func(j, k pair, b *twin) { b.store(t, 1, end, 0) },
		func(j, k pair, b *twin) { b.store(t, 1, end, read^1<<1) },
		func(j, k pair, b *twin) { b.give(t, 1) },
		func(j, k pair, b *twin) { b.take(t) },
	}
	orders := 1
	for range 4 {
		orders *= len(calls)
	}
	// Nothing yet; two walks, the one ahead of the other; a walk whose next step marks; a line, not Dirty, of the page; that line, and a Write on its way.
	for _, ahead := range [][]int{{}, {2, 0, 3}, {2, 0, 0}, {2, 0, 0, 0}, {2, 0, 0, 0, 3, 0}} {
		for order := range orders {
			was := wayTo(p, level, read)
			b := &twin{was.lay(t), was}
			j, k := newPair(0), newPair(0)
			k.begin(t, api.Access{Page: p + 1, Kind: api.Write})
			k.step(t, b)
			for _, call := range ahead {
				calls[call](j, k, b)
			}
			for rest, n := order, 0; n < 4; rest, n = rest/len(calls), n+1 {
				calls[rest%len(calls)](j, k, b)
				j.mustBeAlike(t)
				k.mustBeAlike(t)
			}
			mustHold(t, b.f, b.m)
		}
	}
	begins.mustHave(t, "Begin", goesOn, isDone, isNotAllowed, hasCode(api.ErrKind), hasCode(api.ErrBusy))
	steps.mustHave(t, "Step", goesOn, isDone, isNotMapped, isNotAllowed, hasCode(api.ErrIdle), hasCode(api.ErrFree))
}

// TestLongRuns goes on for long with some cores in memories that go on changing, by a fixed rule; lists of before stay as they were.
func TestLongRuns(t *testing.T) {
	begins, steps := count{}, count{}
	for seed, r := range []struct{ frames, pages, changeIn, wrongIn int }{
		{4, 8, 6, 1000000}, {4, 64, 5, 40}, {8, 512, 6, 100}, {12, api.Pages, 8, 1000000}, {128, api.Pages, 12, 50}, {1, api.Pages, 2, 20},
	} {
		state := uint64(seed + 1)
		below := func(end int) int {
			state = state*6364136223846793005 + 1442695040888963407
			return int(state>>33) % end
		}
		m := &memory{words: make([][api.Fan]uint64, r.frames)}
		b := &twin{m.lay(t), m}
		var all []pair
		for range api.MaxCores {
			all = append(all, newPair(below(2)*below(r.frames)))
		}
		for range 400 {
			listed, was := all[0].c.List(), slices.Clone(all[0].m.lines)
			for range 50 {
				x := all[below(len(all))]
				switch {
				case below(r.changeIn) == 0:
					change(t, b, r.wrongIn, below)
				case below(60) == 0:
					x.told(api.Map{Page: below(r.pages+2) - 1, Size: below(4)})
				case below(60) == 0:
					x.evict(t)
				case !x.m.on && below(8) > 0 || below(20) == 0:
					begins.add(x.begin(t, api.Access{Page: below(r.pages+2) - 1, Kind: below(15)%4 - below(40)/39, User: below(3) == 0}))
				default:
					steps.add(x.step(t, b))
				}
				for _, x := range all {
					x.mustBeAlike(t)
				}
				mustHold(t, b.f, b.m)
			}
			mustSameList(t, "a list of before", listed, was)
			mustKeep(t, all[0].c, all[0].m.lines...)
		}
	}
	begins.mustHave(t, "Begin", goesOn, isDone, isNotAllowed, hasCode(api.ErrKind), hasCode(api.ErrRange), hasCode(api.ErrBusy))
	steps.mustHave(t, "Step", goesOn, isDone, isNotMapped, isNotAllowed, hasCode(api.ErrIdle), hasCode(api.ErrFree), hasCode(api.ErrBits), hasCode(api.ErrKind), hasCode(api.ErrAlign))
}

// change makes one word of a memory another one, or puts a frame in use or takes it out; most words that it lays may stand at the level of their table, if each fourth of the frames is one level's.
func change(t *testing.T, b *twin, wrongIn int, below func(int) int) {
	t.Helper()
	count := len(b.m.words)
	k, i := below(count), below(api.Fan)
	if below(30) == 0 {
		b.give(t, k)
		return
	}
	if below(6) == 0 {
		b.take(t)
		return
	}
	level := top - k*api.Levels/count
	word := uint64(0)
	switch kind := below(8); {
	case below(wrongIn) == 0:
		word = []uint64{2, leads(0) | dirty, 1<<12 | isALeaf | there, leads(count)}[below(4)]
	case kind == 0:
	case level == 0 || level < top && kind < 4:
		word = leaf(level, 64*below(1000), below(8)|below(8), marks[below(4)])
	default:
		word = leads(min((top-level+1)*count/api.Levels+below(max(count/api.Levels, 1)), count-1))
	}
	b.store(t, k, i, word)
}
