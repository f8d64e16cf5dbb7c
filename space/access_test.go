package space_test

import (
	"slices"
	"testing"

	"wayleave/api"
	"wayleave/space"
	"wayleave/tlb"
)

// An access of each kind, of a mapping of each size and of all rights, step by step to its end: the words that lead on, the leaf, the mark.
func TestAccess(t *testing.T) {
	for _, p := range []int{0, 645, last} {
		for size := range 3 {
			for rights := range 8 {
				m := aligned(p, size, 64, rights)
				for _, a := range accesses(p) {
					s := mustNew(t, 2, 4)
					mustMap(t, s, m)
					mustWalkDown(t, s, m, a)
				}
			}
		}
	}
}

// mustWalkDown fails unless the core 1 goes all the way down for an access of a mapping without marks, and the core 0 has no part in it.
func mustWalkDown(t *testing.T, s *space.Space, m api.Map, a api.Access) {
	t.Helper()
	was := look(s)
	step := func(x api.Step, want api.Event) {
		t.Helper()
		mustDo(t, s, x, want)
		if now := look(s); !now.cores[0].is(was.cores[0]) || now.busy || now.free != was.free || !slices.Equal(now.list, was.list) {
			t.Fatalf("behind %v the Space is %v, and was %v", x, now, was)
		}
	}
	mustNotBeOn(t, s, 1)
	step(begin(1, a), going)
	for range 3 - m.Size {
		mustBeOn(t, s, 1, a)
		mustHaveKept(t, s, 1)
		step(walk(1), going)
	}
	mustBeOn(t, s, 1, a)
	mustFind(t, s, m, false, false)
	if !lets(m.Rights, a) {
		step(walk(1), notAllowed)
		mustNotBeOn(t, s, 1)
		mustHaveKept(t, s, 1)
		mustFind(t, s, m, false, false)
		return
	}
	step(walk(1), going)
	mustBeOn(t, s, 1, a)
	mustFind(t, s, m, false, false)
	step(walk(1), done(m.Frame+a.Page-m.Page, m.Rights))
	mustNotBeOn(t, s, 1)
	mustHaveKept(t, s, 1, tlb.Line{M: m, Dirty: a.Kind == api.Write})
	mustFind(t, s, m, true, a.Kind == api.Write)
	mustRefuse(t, s, walk(1), api.ErrIdle)
}

// A leaf that has its marks already, by another core, is read and not marked; a Read of one that was written is kept as Dirty.
func TestAccessOfWhatHasMarks(t *testing.T) {
	for _, x := range []struct {
		first, second int
		steps         int
		isDirty       bool
	}{
		{api.Read, api.Read, 3, false}, {api.Read, api.Run, 3, false}, {api.Read, api.Write, 4, true},
		{api.Write, api.Read, 3, true}, {api.Write, api.Run, 3, true}, {api.Write, api.Write, 3, true},
	} {
		s := mustNew(t, 2, 4)
		m := mapping(5, api.Small, 9, 7)
		mustMap(t, s, m)
		mustGo(t, s, begin(0, api.Access{Page: 5, Kind: x.first}))
		mustEnd(t, s, 0, 4, done(9, 7))
		mustGo(t, s, begin(1, api.Access{Page: 5, Kind: x.second}))
		mustEnd(t, s, 1, x.steps, done(9, 7))
		mustHaveKept(t, s, 0, tlb.Line{M: m, Dirty: x.first == api.Write})
		mustHaveKept(t, s, 1, tlb.Line{M: m, Dirty: x.isDirty})
		mustFind(t, s, m, true, x.isDirty)
	}
}

// Where nothing is mapped the way ends at the first word that is not there, at each level, and nothing is kept.
func TestAccessOfWhatIsNotMapped(t *testing.T) {
	for _, x := range []struct{ page, steps int }{{512, 0}, {last, 0}, {64, 1}, {511, 1}, {8, 2}, {63, 2}, {4, 3}, {7, 3}} {
		for _, a := range accesses(x.page) {
			s := mustNew(t, 2, 4)
			mustMap(t, s, small)
			mustGo(t, s, begin(1, a))
			for range x.steps {
				mustGo(t, s, walk(1))
				mustBeOn(t, s, 1, a)
			}
			mustDo(t, s, walk(1), notMapped)
			mustNotBeOn(t, s, 1)
			mustHaveKept(t, s, 1)
			mustRefuse(t, s, walk(1), api.ErrIdle)
		}
	}
}

// A core that has an access on its way begins no other one, be it of a page that it keeps; what is no access is told ahead of ErrBusy.
func TestAccessByACoreThatIsBusy(t *testing.T) {
	for steps := range 5 {
		s := mustNew(t, 2, 5)
		mustMap(t, s, small, large)
		mustKeep(t, s, 0, 9, true)
		mustGo(t, s, write(0, 5))
		mustGo(t, s, times(steps, walk(0))...)
		for _, p := range []int{5, 9, 4, last} {
			for _, a := range accesses(p) {
				mustRefuse(t, s, begin(0, a), api.ErrBusy)
			}
		}
		for code, wrong := range noAccesses() {
			for _, a := range wrong {
				mustRefuse(t, s, begin(0, a), code)
			}
		}
		mustGo(t, s, read(1, 5))
		mustBeOn(t, s, 0, api.Access{Page: 5, Kind: api.Write})
		mustEnd(t, s, 0, 4-steps, done(9, 3))
	}
}

// What is no access is none, whether the core keeps lines or not.
func TestAccessThatIsNone(t *testing.T) {
	s := mustNew(t, 2, 5)
	mustMap(t, s, small, large)
	mustKeep(t, s, 1, 5, true)
	for code, wrong := range noAccesses() {
		for _, a := range wrong {
			for core := range 2 {
				mustRefuse(t, s, begin(core, a), code)
				mustNotBeOn(t, s, core)
			}
		}
	}
}

// By what is kept an access ends at once, allowed or not; but a Write that is, by a line that is not Dirty, goes on its way to mark the leaf.
func TestAccessByWhatIsKept(t *testing.T) {
	for size := range 3 {
		for rights := range 8 {
			for _, isDirty := range []bool{false, true} {
				if isDirty && rights&api.MayWrite == 0 {
					continue
				}
				m := aligned(645, size, 64, rights)
				for _, p := range []int{m.Page, m.Page + spans[size] - 1} {
					for _, a := range accesses(p) {
						s := mustNew(t, 2, 4)
						mustMap(t, s, m)
						mustKeep(t, s, 1, 645, isDirty)
						mustHaveKept(t, s, 1, tlb.Line{M: m, Dirty: isDirty})
						mustEndByLine(t, s, m, a, isDirty)
					}
				}
			}
		}
	}
}

// mustEndByLine fails unless an access by the core 1, that keeps the line of a mapping, ends as the chapter of cores says.
func mustEndByLine(t *testing.T, s *space.Space, m api.Map, a api.Access, isDirty bool) {
	t.Helper()
	was := look(s)
	switch end := done(64+a.Page-m.Page, m.Rights); {
	case !lets(m.Rights, a):
		mustDo(t, s, begin(1, a), notAllowed)
		mustLookLike(t, s, was)
	case a.Kind == api.Write && !isDirty:
		mustGo(t, s, begin(1, a))
		mustBeOn(t, s, 1, a)
		mustHaveKept(t, s, 1, tlb.Line{M: m})
		mustEnd(t, s, 1, 4-m.Size, end)
		mustHaveKept(t, s, 1, tlb.Line{M: m, Dirty: true})
		mustFind(t, s, m, true, true)
	default:
		mustDo(t, s, begin(1, a), end)
		mustLookLike(t, s, was)
	}
	mustNotBeOn(t, s, 1)
}

// What one core keeps no other one uses.
func TestAccessByWhatAnotherCoreKeeps(t *testing.T) {
	s := mustNew(t, 4, 4)
	mustMap(t, s, small)
	mustKeep(t, s, 2, 5, true)
	for _, core := range []int{0, 1, 3} {
		mustHaveKept(t, s, core)
		mustGo(t, s, read(core, 5))
		mustEnd(t, s, core, 3, done(9, 3))
		mustHaveKept(t, s, core, tlb.Line{M: small, Dirty: true})
	}
	mustDo(t, s, read(2, 5), done(9, 3))
}

// Two cores go down at the same time, each by its own steps; the leaf that the one marked is another word for the other, which begins again.
func TestTwoWalks(t *testing.T) {
	s := mustNew(t, 2, 4)
	mustMap(t, s, small)
	mustGo(t, s, read(0, 5), write(1, 5))
	mustGo(t, s, times(4, walk(0))...)
	mustGo(t, s, times(4, walk(1))...)
	mustDo(t, s, walk(0), done(9, 3))
	mustFind(t, s, small, true, false)
	mustGo(t, s, walk(1))
	mustFind(t, s, small, true, false)
	mustEnd(t, s, 1, 4, done(9, 3))
	mustFind(t, s, small, true, true)
	mustHaveKept(t, s, 0, tlb.Line{M: small})
	mustHaveKept(t, s, 1, tlb.Line{M: small, Dirty: true})
}

func TestWalkByACoreThatHasNothingOnItsWay(t *testing.T) {
	s := mustNew(t, 3, 4)
	mustMap(t, s, small)
	mustGo(t, s, read(1, 5))
	for range 4 {
		mustRefuse(t, s, walk(0), api.ErrIdle)
		mustRefuse(t, s, walk(2), api.ErrIdle)
		mustGo(t, s, walk(1))
	}
	mustEnd(t, s, 1, 0, done(9, 3))
	for core := range 3 {
		mustRefuse(t, s, walk(core), api.ErrIdle)
	}
	mustDo(t, s, read(1, 5), done(9, 3))
	mustRefuse(t, s, walk(1), api.ErrIdle)
}

// The oldest line goes first, one by one, of that core alone; without lines there is nothing to do.
func TestEvict(t *testing.T) {
	for count := 1; count <= 6; count++ {
		s := mustNew(t, 2, 4)
		var lines []tlb.Line
		for i := range count {
			m := mapping((3*i)%8, api.Small, 20+i, 1)
			mustMap(t, s, m)
			lines = append(lines, tlb.Line{M: m, Dirty: i%2 == 1})
			for core := range 2 {
				mustKeep(t, s, core, m.Page, i%2 == 1)
			}
		}
		mustHaveKept(t, s, 0, lines...)
		// A line that was used is no younger for it.
		mustDo(t, s, read(0, lines[0].M.Page), done(20, 1))
		for n, l := range lines {
			mustGo(t, s, evict(0))
			mustHaveKept(t, s, 0, lines[n+1:]...)
			mustHaveKept(t, s, 1, lines...)
			mustFind(t, s, l.M, true, l.Dirty)
		}
		mustRefuse(t, s, evict(0), api.ErrIdle)
		mustGo(t, s, read(0, lines[0].M.Page))
		mustEnd(t, s, 0, 3, done(20, 1))
		mustGo(t, s, evict(1))
		mustHaveKept(t, s, 1, lines[1:]...)
		mustHaveKept(t, s, 0, lines[0])
	}
}

// Of more lines than a core keeps the oldest ones have gone already.
func TestEvictOfMoreThanAreKept(t *testing.T) {
	s := mustNew(t, 1, 5)
	var lines []tlb.Line
	for p := range 9 {
		m := mapping(p, api.Small, 50+p, 1)
		mustMap(t, s, m)
		mustKeep(t, s, 0, p, true)
		lines = append(lines, tlb.Line{M: m, Dirty: true})
		mustHaveKept(t, s, 0, lines[max(0, p-5):]...)
	}
	for n := range 6 {
		mustGo(t, s, evict(0))
		mustHaveKept(t, s, 0, lines[4+n:]...)
	}
	mustRefuse(t, s, evict(0), api.ErrIdle)
}

// An access on its way is not touched by what the core forgets meanwhile.
func TestEvictWhileAnAccessIsOnItsWay(t *testing.T) {
	for steps := range 5 {
		s := mustNew(t, 1, 5)
		mustMap(t, s, small, large)
		mustKeep(t, s, 0, 9, true)
		mustGo(t, s, write(0, 5))
		mustGo(t, s, times(steps, walk(0))...)
		mustGo(t, s, evict(0))
		mustRefuse(t, s, evict(0), api.ErrIdle)
		mustBeOn(t, s, 0, api.Access{Page: 5, Kind: api.Write})
		mustEnd(t, s, 0, 4-steps, done(9, 3))
		mustHaveKept(t, s, 0, tlb.Line{M: small, Dirty: true})
	}
}
