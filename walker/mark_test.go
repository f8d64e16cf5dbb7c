package walker_test

import (
	"testing"

	"wayleave/api"
	"wayleave/walker"
)

// otherWords tells words that may stand by the time a leaf of a level, at the frame 64, is to be marked: each but the last ones is a word that a walk could read.
func otherWords(level, rights int, mark uint64) []uint64 {
	others := []uint64{0, leaf(level, 128, rights, mark), leads(3), leaf(level, 64, 0, used|dirty)}
	for r := range 8 {
		for _, m := range marks {
			others = append(others, leaf(level, 64, r, m))
		}
	}
	return append(others, 2, 1<<63, leaf(level, 64, rights, mark)|1<<63)
}

// marking tells a walk the next step of which marks a leaf of a level, at the frame 64.
func marking(t *testing.T, was *memory, a api.Access, level int) (*walker.Walker, *twin) {
	t.Helper()
	f := was.lay(t)
	return begun(t, f, a, top-level+1), &twin{f, was.clone()}
}

// A word that is another one by the time it is to be marked: it stays as it is, and the way begins again, at the root.
func TestAnotherWord(t *testing.T) {
	for level := range top {
		for _, p := range []int{0, 645, last} {
			for _, a := range accesses(p) {
				for _, mark := range marks {
					if mark|wants(a) == mark {
						continue
					}
					read := leaf(level, 64, 7, mark)
					for _, other := range otherWords(level, 7, mark) {
						if other != read {
							mustBeginAgain(t, wayTo(p, level, read), a, level, other)
						}
					}
				}
			}
		}
	}
}

// mustBeginAgain fails unless the step that finds another word where it is to mark leads to the root, and from there on all is as of a new walk.
func mustBeginAgain(t *testing.T, was *memory, a api.Access, level int, other uint64) {
	t.Helper()
	k, both := marking(t, was, a, level)
	both.store(t, top-level, place(a.Page, level), other)
	mustStep(t, k, both.f, going)
	mustBeOn(t, k, a)
	mustBegin(t, k, a, api.ErrBusy)
	both.mustHold(t)

	fresh := both.m.lay(t)
	j := begun(t, fresh, a, 0)
	for range 8 {
		want, wantCode := j.Step(fresh)
		got, code := k.Step(both.f)
		if got != want || code != wantCode || k.On() != j.On() {
			t.Fatalf("behind the word %#x: %v, %d, want %v, %d as of a new walk", other, got, code, want, wantCode)
		}
	}

	k, both = marking(t, was, a, level)
	both.store(t, top-level, place(a.Page, level), other)
	mustStep(t, k, both.f, going)
	both.store(t, 0, place(a.Page, top), 0)
	mustStep(t, k, both.f, notMapped)
	both.mustHold(t)
}

// Marks by others count as another word even if they are all that the access wants: the leaf is read again.
func TestMarkedByAnother(t *testing.T) {
	const p = 645
	was := wayTo(p, 1, leaf(1, 64, 7, 0))
	f := was.lay(t)
	write, look := api.Access{Page: p, Kind: api.Write}, api.Access{Page: p + 1}
	j, k := begun(t, f, write, 3), begun(t, f, look, 3)
	mustStep(t, j, f, done(p, 1, 64, 7, true))
	mustStep(t, k, f, going)
	mustGo(t, k, f, 2)
	mustStep(t, k, f, done(p+1, 1, 64, 7, true))
	mustBe(t, f, was.with(p, 1, leaf(1, 64, 7, used|dirty)))

	f = was.lay(t)
	j, k = begun(t, f, write, 3), begun(t, f, look, 3)
	mustStep(t, k, f, done(p+1, 1, 64, 7, false))
	mustStep(t, j, f, going)
	mustGo(t, j, f, 3)
	mustHold(t, f, was.with(p, 1, leaf(1, 64, 7, used)))
	mustStep(t, j, f, done(p, 1, 64, 7, true))
	mustBe(t, f, was.with(p, 1, leaf(1, 64, 7, used|dirty)))
}

// A walk may be led back to the root as often as the word is another one.
func TestAnotherWordTimeAndAgain(t *testing.T) {
	const p = 9
	was := wayTo(p, 0, leaf(0, 64, 7, 0))
	f := was.lay(t)
	k := begun(t, f, api.Access{Page: p}, 0)
	for i := range 20 {
		mustGo(t, k, f, 4)
		mustStore(t, f, 3, place(p, 0), leaf(0, 65+i, 7, 0))
		mustStep(t, k, f, going)
	}
	mustGo(t, k, f, 4)
	mustStep(t, k, f, done(p, 0, 84, 7, false))
	mustBe(t, f, was.with(p, 0, leaf(0, 84, 7, used)))
}

// A word that was changed and changed back is the same one; so it is in a table that was given back and is in use again.
func TestChangedAndChangedBack(t *testing.T) {
	for level := range top {
		for _, p := range []int{0, 645, last} {
			for _, a := range accesses(p) {
				read := leaf(level, 64, 7, 0)
				was := wayTo(p, level, read)
				marked := was.with(p, level, read|wants(a))
				for _, other := range otherWords(level, 7, 0) {
					k, both := marking(t, was, a, level)
					mustStore(t, both.f, top-level, place(p, level), other)
					mustStore(t, both.f, top-level, place(p, level), read)
					mustStep(t, k, both.f, done(p, level, 64, 7, wants(a)&dirty != 0))
					mustBeOff(t, k, both.f)
					mustBe(t, both.f, marked)
				}
				k, both := marking(t, was, a, level)
				mustTake(t, both.f, top-level, mustGive(t, both.f, top-level))
				mustStep(t, k, both.f, done(p, level, 64, 7, wants(a)&dirty != 0))
				mustBe(t, both.f, marked)
			}
		}
	}
}

// A leaf is marked where it was read, even if the way leads there no more.
func TestMarkOffTheWay(t *testing.T) {
	const p = 645
	for high := 1; high <= top; high++ {
		was := wayTo(p, 0, leaf(0, 64, 7, 0))
		for _, word := range []uint64{0, 2, leads(0), leads(127)} {
			k, both := marking(t, was, api.Access{Page: p, Kind: api.Write}, 0)
			both.store(t, top-high, place(p, high), word)
			mustStep(t, k, both.f, done(p, 0, 64, 7, true))
			mustBe(t, both.f, was.with(p, high, word).with(p, 0, leaf(0, 64, 7, used|dirty)))
		}
		k, both := marking(t, was, api.Access{Page: p, Kind: api.Write}, 0)
		mustGive(t, both.f, top-high)
		mustStep(t, k, both.f, done(p, 0, 64, 7, true))
		marked := was.with(p, 0, leaf(0, 64, 7, used|dirty))
		marked.free = []int{top - high}
		mustBe(t, both.f, marked)
	}
}

// A table that is given back ahead of a mark: its code, till it is in use again; then its word is another one, or the same.
func TestTableGivenBackAheadOfAMark(t *testing.T) {
	for level := range top {
		for _, p := range []int{0, 645, last} {
			for _, a := range accesses(p) {
				read := leaf(level, 64, 7, 0)
				was := wayTo(p, level, read)
				table := top - level
				gone := was.clone()
				gone.free = []int{table}

				k, both := marking(t, was, a, level)
				words := mustGive(t, both.f, table)
				mustNotStep(t, k, both.f, api.ErrFree)
				mustBeOn(t, k, a)
				mustBegin(t, k, a, api.ErrBusy)
				mustHold(t, both.f, gone)
				mustTake(t, both.f, table, words)
				mustStep(t, k, both.f, done(p, level, 64, 7, wants(a)&dirty != 0))
				mustBeOff(t, k, both.f)
				mustBe(t, both.f, was.with(p, level, read|wants(a)))

				k, both = marking(t, was, a, level)
				mustGive(t, both.f, table)
				mustNotStep(t, k, both.f, api.ErrFree)
				mustBe(t, both.f, gone) // which takes it, its words 0
				mustStep(t, k, both.f, going)
				mustBeOn(t, k, a)
				mustGo(t, k, both.f, table)
				mustStep(t, k, both.f, notMapped)
				empty := was.clone()
				empty.words[table] = [api.Fan]uint64{}
				mustBe(t, both.f, empty)
			}
		}
	}
}

// Behind the code of a mark Again leads back to the root: nothing is left to be marked.
func TestAgainInsteadOfAMark(t *testing.T) {
	const p = 645
	was := wayTo(p, 0, leaf(0, 64, 7, 0))
	k, both := marking(t, was, api.Access{Page: p}, 0)
	words := mustGive(t, both.f, 3)
	mustNotStep(t, k, both.f, api.ErrFree)
	k.Again()
	mustTake(t, both.f, 3, words)
	mustStore(t, both.f, 0, place(p, top), 0)
	mustStep(t, k, both.f, notMapped)
	mustBe(t, both.f, was.with(p, top, 0))
}

// Nothing of a walk that was to mark is left for the next access.
func TestMarkIsNotLeftBehind(t *testing.T) {
	const p = 645
	was := wayTo(p, 2, leaf(2, 64, 7, 0))
	was.words[0][7] = 0
	for steps := range 3 {
		f := was.lay(t)
		k := begun(t, f, api.Access{Page: p, Kind: api.Write}, steps)
		mustGo(t, k, f, 2-steps)
		mustStep(t, k, f, done(p, 2, 64, 7, true))
		mustBegin(t, k, api.Access{Page: last}, 0)
		mustStep(t, k, f, notMapped)
		mustBegin(t, k, api.Access{Page: p}, 0)
		mustGo(t, k, f, 1)
		mustStep(t, k, f, done(p, 2, 64, 7, true))
		mustBe(t, f, was.with(p, 2, leaf(2, 64, 7, used|dirty)))
	}
}
