package space_test

import (
	"testing"

	"wayleave/api"
	"wayleave/space"
	"wayleave/tlb"
)

// Each core looks after it, in every order; it is over with the last one, and not ahead; whoever has done so has nothing to look after any more.
func TestAckInEveryOrder(t *testing.T) {
	for cores := 1; cores <= 4; cores++ {
		for _, change := range []api.Step{unmap(5), protect(5, 1), protect(5, 3)} {
			for _, order := range orders(upTo(cores)) {
				s := mustNew(t, cores, 4)
				mustMap(t, s, small)
				mustGo(t, s, change)
				tables := s.Gone()
				waits := upTo(cores)
				for n, core := range order {
					mustWait(t, s, waits...)
					mustCount(t, s, counts{busy: true, gone: tables})
					mustDo(t, s, ack(core), map[bool]api.Event{false: going, true: back}[n == cores-1])
					waits = without(waits, core)
					mustWait(t, s, waits...)
					mustRefuse(t, s, ack(core), api.ErrIdle)
				}
				mustCount(t, s, counts{free: tables})
				for core := range cores {
					mustRefuse(t, s, ack(core), api.ErrIdle)
				}
			}
		}
	}
}

// With nothing to look after there is nothing to do, whatever else a core is at.
func TestAckOfNothing(t *testing.T) {
	for _, x := range scenes() {
		s := x.reach(t)
		for core := range x.cores {
			if !s.Waits(core) {
				mustRefuse(t, s, ack(core), api.ErrIdle)
			}
		}
	}
}

// The lines of that mapping go, of the core that looks after it alone; all others stay, in their order.
func TestAckDropsLines(t *testing.T) {
	for _, change := range []api.Step{unmap(9), unmap(15), protect(9, 7), protect(8, 0)} {
		s := mustNew(t, 3, 5)
		mustMap(t, s, small, large, huge)
		lines := []tlb.Line{{M: small}, {M: large, Dirty: true}, {M: huge}}
		for core := range 3 {
			mustKeep(t, s, core, 5, false)
			mustKeep(t, s, core, 10, true)
			mustKeep(t, s, core, 140, false)
			mustHaveKept(t, s, core, lines...)
		}
		mustGo(t, s, change)
		for n, core := range []int{2, 0, 1} {
			mustHaveKept(t, s, core, lines...)
			mustDo(t, s, ack(core), map[bool]api.Event{false: going, true: back}[n == 2])
			mustHaveKept(t, s, core, lines[0], lines[2])
		}
	}
}

// What is kept is used till the core has looked after it, and not from then on, while others may use it still.
func TestKeptIsUsedTillAck(t *testing.T) {
	s := mustNew(t, 2, 5)
	mustMap(t, s, small, large)
	for core := range 2 {
		mustKeep(t, s, core, 5, true)
		mustKeep(t, s, core, 9, true)
	}
	mustGo(t, s, unmap(5))
	mustDo(t, s, write(0, 5), done(9, 3))
	mustDo(t, s, write(1, 5), done(9, 3))
	mustGo(t, s, ack(0), read(0, 5))
	mustEnd(t, s, 0, 2, notMapped)
	mustDo(t, s, write(1, 5), done(9, 3))
	mustAck(t, s, 1)
	mustGo(t, s, read(1, 5))
	mustEnd(t, s, 1, 2, notMapped)

	mustGo(t, s, protect(9, api.MayRun))
	mustDo(t, s, write(0, 9), done(17, 7))
	mustGo(t, s, ack(0), write(0, 9))
	mustEnd(t, s, 0, 2, notAllowed)
	mustDo(t, s, write(1, 9), done(17, 7))
	mustAck(t, s, 1)
	mustGo(t, s, begin(1, api.Access{Page: 9, Kind: api.Run}))
	mustEnd(t, s, 1, 2, done(17, 4))
	mustHaveKept(t, s, 1, tlb.Line{M: mapping(8, api.Large, 16, 4), Dirty: true})
}

// A core that has not looked after it may keep what is new already.
func TestWalkAheadOfAck(t *testing.T) {
	s := mustNew(t, 2, 4)
	mustMap(t, s, small)
	mustGo(t, s, protect(5, 5))
	mustGo(t, s, read(0, 5))
	mustEnd(t, s, 0, 4, done(9, 5))
	mustHaveKept(t, s, 0, tlb.Line{M: mapping(5, api.Small, 9, 5)})
	mustGo(t, s, ack(0))
	mustHaveKept(t, s, 0)
	mustAck(t, s, 1)
}

// mustEndInWhatWent fails unless the walk of the core 0, to a page of which the mapping went, ends as one does that was that many steps from the root: it goes on in tables that are in use still, and finds nothing there; a mark finds another word, and begins again.
func mustEndInWhatWent(t *testing.T, s *space.Space, steps int) {
	t.Helper()
	if steps == 4 {
		mustGo(t, s, walk(0))
	}
	mustDo(t, s, walk(0), notMapped)
}

// An access that is on its way at each of its steps when its mapping goes: without a look after it, it ends in what is there still.
func TestUnmapOnTheWay(t *testing.T) {
	for steps := range 5 {
		for _, kind := range []int{api.Read, api.Write} {
			a := api.Access{Page: 5, Kind: kind}
			s := mustNew(t, 2, 4)
			mustMap(t, s, small)
			mustGo(t, s, begin(0, a))
			mustGo(t, s, times(steps, walk(0))...)
			mustGo(t, s, unmap(5), ack(1))
			mustBeOn(t, s, 0, a)
			mustEndInWhatWent(t, s, steps)
			mustNotBeOn(t, s, 0)
			mustHaveKept(t, s, 0)
			mustCount(t, s, counts{busy: true, gone: 3})
			mustAck(t, s, 0)
			mustCount(t, s, counts{free: 3})
		}
	}
}

// With a look after it the walk begins its way again, at the root: also of a page that has nothing to do with the change.
func TestAckOnTheWay(t *testing.T) {
	for steps := range 5 {
		for _, x := range []struct {
			change api.Step
			left   int
			end    api.Event
		}{
			{unmap(5), 0, notMapped}, {protect(5, 2), 3, notAllowed}, {protect(5, 7), 4, done(9, 7)}, {protect(5, 3), 4, done(9, 3)},
			{unmap(1000), 4, done(9, 3)}, {protect(1000, 0), 4, done(9, 3)},
		} {
			a := api.Access{Page: 5, Kind: api.Write}
			s := mustNew(t, 2, 7)
			mustMap(t, s, small, mapping(1000, api.Small, 1, 1))
			mustGo(t, s, begin(0, a))
			mustGo(t, s, times(steps, walk(0))...)
			mustGo(t, s, x.change, ack(1))
			mustBeOn(t, s, 0, a)
			mustDo(t, s, ack(0), back)
			mustBeOn(t, s, 0, a)
			mustEnd(t, s, 0, x.left, x.end)
			mustNotBeOn(t, s, 0)
		}
	}
}

// A walk that was told, and went on, does not begin again when another core is told; nor does it when the change is over.
func TestAckOfAnotherCore(t *testing.T) {
	s := mustNew(t, 2, 7)
	mustMap(t, s, small, mapping(1000, api.Small, 1, 1))
	mustGo(t, s, read(0, 5))
	mustGo(t, s, unmap(1000), ack(0))
	mustGo(t, s, times(3, walk(0))...)
	mustAck(t, s, 1)
	mustEnd(t, s, 0, 1, done(9, 3))
}

// While a leaf is to be marked it may have other rights: the mark would undo them, so the walk begins again, and its entry is as the change left it.
func TestProtectAheadOfTheMark(t *testing.T) {
	for rights := range 8 {
		for _, kind := range []int{api.Read, api.Write} {
			a := api.Access{Page: 5, Kind: kind}
			m := mapping(5, api.Small, 9, rights)
			s := mustNew(t, 1, 4)
			mustMap(t, s, small)
			mustGo(t, s, begin(0, a))
			mustGo(t, s, times(4, walk(0))...)
			mustGo(t, s, protect(5, rights))
			if rights == small.Rights {
				// The word is the same one.
				mustDo(t, s, walk(0), done(9, rights))
				mustFind(t, s, m, true, kind == api.Write)
				continue
			}
			mustGo(t, s, walk(0))
			mustFind(t, s, m, false, false)
			if !lets(rights, a) {
				mustEnd(t, s, 0, 3, notAllowed)
				mustFind(t, s, m, false, false)
				continue
			}
			mustEnd(t, s, 0, 4, done(9, rights))
			mustFind(t, s, m, true, kind == api.Write)
		}
	}
}

// Frames of tables that went are other tables later; a walk that was there is not, whenever it was told.
func TestTablesThatWentAreOthersLater(t *testing.T) {
	for steps := range 5 {
		for _, order := range orders(upTo(3)) {
			s := mustNew(t, 3, 4)
			mustMap(t, s, small)
			for core := range 3 {
				mustGo(t, s, write(core, 5))
				mustGo(t, s, times(steps, walk(core))...)
			}
			mustGo(t, s, unmap(5))
			mustAck(t, s, order...)
			mustMap(t, s, mapping(last, api.Small, 77, 7))
			mustHaveTables(t, s, 0, 1, 2, 3)
			for core := range 3 {
				mustEnd(t, s, core, 0, notMapped)
			}
			mustList(t, s, mapping(last, api.Small, 77, 7))
			mustFind(t, s, mapping(last, api.Small, 77, 7), false, false)
		}
	}
}

// A mapping that went and came again, the same or another one, has no marks, and is not known to what was kept.
func TestMapAgain(t *testing.T) {
	for _, m := range []api.Map{small, mapping(5, api.Small, 10, 3), mapping(0, api.Large, 8, 3), mapping(0, api.Huge, 64, 3)} {
		s := mustNew(t, 2, 4)
		mustMap(t, s, small)
		mustKeep(t, s, 0, 5, true)
		mustKeep(t, s, 1, 5, false)
		mustGo(t, s, unmap(5))
		mustAck(t, s, 1, 0)
		mustMap(t, s, m)
		mustFind(t, s, m, false, false)
		for core := range 2 {
			mustHaveKept(t, s, core)
			mustGo(t, s, write(core, 5))
			mustEnd(t, s, core, []int{4, 3}[core]-m.Size, done(m.Frame+5-m.Page, 3))
		}
		mustFind(t, s, m, true, true)
	}
}

// Evict and accesses of a core that waits are as those of one that does not; it waits still.
func TestStepsOfACoreThatWaits(t *testing.T) {
	s := mustNew(t, 1, 5)
	mustMap(t, s, small, large)
	mustKeep(t, s, 0, 5, false)
	mustKeep(t, s, 0, 9, true)
	mustGo(t, s, unmap(5))
	mustDo(t, s, read(0, 5), done(9, 3))
	mustGo(t, s, evict(0))
	mustWait(t, s, 0)
	mustHaveKept(t, s, 0, tlb.Line{M: large, Dirty: true})
	mustGo(t, s, read(0, 5))
	mustEnd(t, s, 0, 2, notMapped)
	mustGo(t, s, evict(0))
	mustRefuse(t, s, evict(0), api.ErrIdle)
	mustRefuse(t, s, walk(0), api.ErrIdle)
	mustWait(t, s, 0)
	mustAck(t, s, 0)
}
