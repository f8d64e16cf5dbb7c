package walker_test

import (
	"slices"
	"testing"

	"wayleave/api"
	"wayleave/entry"
	"wayleave/frames"
	"wayleave/tlb"
	"wayleave/walker"
)

// twin is frames, and what they are to be.
type twin struct {
	f *frames.Frames
	m *memory
}

func (b *twin) store(t *testing.T, k, i int, word uint64) {
	t.Helper()
	if got, want := b.f.Store(k, i, word), b.m.taken(k); got != want {
		t.Fatalf("Store(%d, %d, %#x): %v, want %v", k, i, word, got, want)
	}
	if b.m.taken(k) {
		b.m.words[k][i] = word
	}
}

func (b *twin) give(t *testing.T, k int) {
	t.Helper()
	if got, want := b.f.Give(k), b.m.taken(k); got != want {
		t.Fatalf("Give(%d): %v, want %v", k, got, want)
	}
	if b.m.taken(k) {
		b.m.free = slices.Insert(b.m.free, 0, k)
	}
}

func (b *twin) take(t *testing.T) {
	t.Helper()
	want := -1
	if len(b.m.free) > 0 {
		want = b.m.free[0]
		b.m.free = b.m.free[1:]
		b.m.words[want] = [api.Fan]uint64{}
	}
	if k := b.f.Take(); k != want {
		t.Fatalf("Take: %d, want %d", k, want)
	}
}

func (b *twin) mustHold(t *testing.T) {
	t.Helper()
	mustHold(t, b.f, b.m)
}

// model says what the chapter says of a walk, by all that it has read since the root: a table for each level, and the word of the leaf, if there is one.
type model struct {
	root   int
	on     bool
	a      api.Access
	tables []int
	leaf   []uint64
}

func (w *model) begin(a api.Access) int {
	switch {
	case a.Kind < 0 || a.Kind > 2:
		return api.ErrKind
	case a.Page < 0 || a.Page >= api.Pages:
		return api.ErrRange
	case w.on:
		return api.ErrBusy
	}
	w.on, w.a = true, a
	w.again()
	return 0
}

func (w *model) again() {
	if w.on {
		w.tables, w.leaf = []int{w.root}, nil
	}
}

func (w *model) step(m *memory) (walker.Result, int) {
	if !w.on {
		return walker.Result{}, api.ErrIdle
	}
	table, level := w.tables[len(w.tables)-1], api.Levels-len(w.tables)
	if !m.taken(table) {
		return walker.Result{}, api.ErrFree
	}
	word := &m.words[table][place(w.a.Page, level)]
	if len(w.leaf) > 0 {
		if *word != w.leaf[0] {
			w.again()
			return walker.Result{}, 0
		}
		*word |= wants(w.a)
		return w.end(*word, level), 0
	}
	e, code := entry.Decode(*word, level)
	switch {
	case code != 0:
		return walker.Result{}, code
	case !e.There:
		w.off()
		return notMapped, 0
	case !e.Leaf:
		w.tables = append(w.tables, e.Frame)
		return walker.Result{}, 0
	case !lets(e.Rights, w.a):
		w.off()
		return notAllowed, 0
	case *word&wants(w.a) != wants(w.a):
		w.leaf = []uint64{*word}
		return walker.Result{}, 0
	}
	return w.end(*word, level), 0
}

// end ends the way at the word of a leaf.
func (w *model) end(word uint64, level int) walker.Result {
	frame, rights := int(word>>12), int(word>>1&7)
	off := w.a.Page % spans[level]
	r := walker.Result{
		Ended: true,
		A:     api.Answer{End: api.Done, Frame: frame + off, Rights: rights},
		L:     tlb.Line{M: api.Map{Page: w.a.Page - off, Size: level, Frame: frame, Rights: rights}, Dirty: word&dirty != 0},
	}
	w.off()
	return r
}

func (w *model) off() {
	*w = model{root: w.root}
}

// pair is a walk, and what it is to be.
type pair struct {
	k *walker.Walker
	w *model
}

func newPair(root int) pair {
	return pair{walker.New(root), &model{root: root}}
}

func (x pair) begin(t *testing.T, a api.Access) {
	t.Helper()
	mustBegin(t, x.k, a, x.w.begin(a))
}

func (x pair) again() {
	x.k.Again()
	x.w.again()
}

// step tells how it ended, or its code, for tests that count them.
func (x pair) step(t *testing.T, b *twin) outcome {
	t.Helper()
	want, wantCode := x.w.step(b.m)
	got, code := x.k.Step(b.f)
	if got != want || code != wantCode {
		t.Fatalf("Step: %v, %d, want %v, %d", got, code, want, wantCode)
	}
	return outcome{got.Ended, got.A.End, code}
}

func (x pair) mustBeAlike(t *testing.T) {
	t.Helper()
	if x.k.On() != x.w.on || x.k.Access() != x.w.a {
		t.Fatalf("on its way: %v, %v, want %v, %v", x.k.On(), x.k.Access(), x.w.on, x.w.a)
	}
}

// outcome is what a step came to, in short.
type outcome struct {
	ended     bool
	end, code int
}

// outcomes are all that there are.
var outcomes = []outcome{
	{}, {true, api.Done, 0}, {true, api.NotMapped, 0}, {true, api.NotAllowed, 0},
	{false, 0, api.ErrIdle}, {false, 0, api.ErrFree}, {false, 0, api.ErrBits}, {false, 0, api.ErrKind}, {false, 0, api.ErrAlign},
}

func mustHaveSeen(t *testing.T, seen map[outcome]int, all []outcome) {
	t.Helper()
	for _, o := range all {
		if seen[o] == 0 {
			t.Errorf("never told: %v; %v", o, seen)
		}
	}
}

// TestEveryOrder goes through all orders of five calls and changes out of many, that many steps from the root, of two walks in one memory.
func TestEveryOrder(t *testing.T) {
	const p, level = 645, 2
	end := place(p, level)
	read := leaf(level, 64, 5, 0)
	seen := map[outcome]int{}
	calls := []func(j, k pair, b *twin){
		func(j, k pair, b *twin) { seen[j.step(t, b)]++ },
		func(j, k pair, b *twin) { seen[k.step(t, b)]++ },
		func(j, k pair, b *twin) { j.begin(t, api.Access{Page: p}) },
		func(j, k pair, b *twin) { j.begin(t, api.Access{Page: p, User: true}) },
		func(j, k pair, b *twin) { j.again() },
		func(j, k pair, b *twin) { b.store(t, 1, end, 0) },
		func(j, k pair, b *twin) { b.store(t, 1, end, read) },
		func(j, k pair, b *twin) { b.store(t, 1, end, read^1<<3) },
		func(j, k pair, b *twin) { b.give(t, 1) },
		func(j, k pair, b *twin) { b.take(t) },
	}
	orders := 1
	for range 5 {
		orders *= len(calls)
	}
	// Walks to the page, the one ahead of the other by some steps.
	for _, ahead := range [][2]int{{1, 0}, {2, 2}} {
		for order := range orders {
			was := wayTo(p, level, read)
			b := &twin{was.lay(t), was}
			j, k := newPair(0), newPair(0)
			j.begin(t, api.Access{Page: p, Kind: api.Run})
			k.begin(t, api.Access{Page: p + 1, Kind: api.Write})
			for range ahead[0] {
				j.step(t, b)
			}
			for range ahead[1] {
				k.step(t, b)
			}
			for rest, n := order, 0; n < 5; rest, n = rest/len(calls), n+1 {
				calls[rest%len(calls)](j, k, b)
				j.mustBeAlike(t)
				k.mustBeAlike(t)
			}
			b.mustHold(t)
		}
	}
	mustHaveSeen(t, seen, outcomes[:6])
}

// TestLongRuns goes on for long with some walks in memories that go on changing, by a fixed rule.
func TestLongRuns(t *testing.T) {
	seen := map[outcome]int{}
	for seed, c := range []struct{ frames, pages, changeIn, wrongIn int }{
		{4, 8, 4, 1000000}, {4, 64, 3, 40}, {8, 512, 4, 100}, {12, api.Pages, 6, 1000000}, {128, api.Pages, 10, 50}, {1, api.Pages, 2, 20},
	} {
		state := uint64(seed + 1)
		below := func(end int) int {
			state = state*6364136223846793005 + 1442695040888963407
			return int(state>>33) % end
		}
		m := &memory{words: make([][api.Fan]uint64, c.frames)}
		b := &twin{m.lay(t), m}
		var all []pair
		for range 4 {
			all = append(all, newPair(below(2)*below(c.frames)))
		}
		for range 20000 {
			x := all[below(len(all))]
			switch {
			case below(c.changeIn) == 0:
				change(t, b, c.wrongIn, below)
			case below(40) == 0:
				x.again()
			case !x.w.on && below(8) > 0 || below(20) == 0:
				x.begin(t, api.Access{Page: below(c.pages+2) - 1, Kind: below(15)%4 - below(40)/39, User: below(3) == 0})
			default:
				seen[x.step(t, b)]++
			}
			for _, x := range all {
				x.mustBeAlike(t)
			}
			b.mustHold(t)
		}
	}
	mustHaveSeen(t, seen, outcomes)
}

// change makes one word of a memory another one, or puts a frame in use or takes it out; most words that it lays may stand at the level of their table, if each fourth of the frames is one level's.
func change(t *testing.T, b *twin, wrongIn int, below func(int) int) {
	t.Helper()
	count := len(b.m.words)
	k, i := below(count), below(api.Fan)
	if below(30) == 0 {
		b.give(t, k)
		return
	}
	if below(6) == 0 {
		b.take(t)
		return
	}
	level := top - k*api.Levels/count
	word := uint64(0)
	switch kind := below(8); {
	case below(wrongIn) == 0:
		word = []uint64{2, leads(0) | dirty, 1<<12 | big | there, leads(count)}[below(4)]
	case kind == 0:
	case level == 0 || level < top && kind < 4:
		word = leaf(level, 64*below(1000), below(8)|below(8), marks[below(4)])
	default:
		word = leads(min((top-level+1)*count/api.Levels+below(max(count/api.Levels, 1)), count-1))
	}
	b.store(t, k, i, word)
}
