package space_test

import (
	"testing"

	"wayleave/api"
)

// A mapping of each size, at each of many pages, takes the tables that it wants, from the higher ones to the lower ones.
func TestMapTakesTables(t *testing.T) {
	for _, p := range somePages {
		for size, tables := range [][]int{{0, 1, 2, 3}, {0, 1, 2}, {0, 1}} {
			for _, m := range []api.Map{aligned(p, size, 0, 0), aligned(p, size, 64, 5), aligned(p, size, api.MaxData-spans[size], 7)} {
				s := mustNew(t, 2, 6)
				mustMap(t, s, m)
				mustList(t, s, m)
				mustHaveTables(t, s, tables...)
				mustCount(t, s, counts{free: 6 - len(tables)})
				mustFind(t, s, m, false, false)
				mustNotFind(t, s, pagesCode(m.Page-1), m.Page-1)
				mustNotFind(t, s, pagesCode(m.Page+spans[size]), m.Page+spans[size])
			}
		}
	}
}

// pagesCode tells what Find tells of a number at which nothing is mapped.
func pagesCode(p int) int {
	if p < 0 || p > last {
		return api.ErrRange
	}
	return api.ErrNone
}

// Where tables are on the way already, only those that are wanting are taken, and none if none is.
func TestMapTakesWhatIsWanting(t *testing.T) {
	for _, x := range []struct {
		m      api.Map
		takes  int
		tables []int
	}{
		{mapping(4, api.Small, 1, 7), 0, []int{0, 1, 2, 3}},
		{mapping(7, api.Small, 1, 7), 0, []int{0, 1, 2, 3}},
		{mapping(8, api.Large, 8, 7), 0, []int{0, 1, 2, 3}},
		{mapping(56, api.Large, 8, 7), 0, []int{0, 1, 2, 3}},
		{mapping(64, api.Huge, 64, 7), 0, []int{0, 1, 2, 3}},
		{mapping(448, api.Huge, 64, 7), 0, []int{0, 1, 2, 3}},
		{mapping(8, api.Small, 1, 7), 1, []int{0, 1, 2, 3, 4}},
		{mapping(64, api.Large, 8, 7), 1, []int{0, 1, 2, 3, 4}},
		{mapping(512, api.Huge, 64, 7), 1, []int{0, 1, 2, 3, 4}},
		{mapping(64, api.Small, 1, 7), 2, []int{0, 1, 2, 3, 4, 5}},
		{mapping(4088, api.Large, 8, 7), 2, []int{0, 1, 2, 3, 4, 5}},
		{mapping(512, api.Small, 1, 7), 3, []int{0, 1, 2, 3, 4, 5, 6}},
	} {
		// Just as many frames as it takes, and one more.
		for spare := range 2 {
			s := mustNew(t, 1, 4+x.takes+spare)
			mustMap(t, s, small)
			mustCount(t, s, counts{free: x.takes + spare})
			mustMap(t, s, x.m)
			mustCount(t, s, counts{free: spare})
			mustHaveTables(t, s, x.tables...)
			mustFind(t, s, small, false, false)
			mustFind(t, s, x.m, false, false)
		}
		// Fewer: nothing changes, and what is there still is taken by the next one as if nothing had been asked.
		for few := range x.takes {
			s := mustNew(t, 1, 4+few)
			mustMap(t, s, small)
			mustRefuse(t, s, smap(x.m), api.ErrFull)
			mustList(t, s, small)
			mustMap(t, s, mapping(6, api.Small, 0, 0))
			for n := range few {
				mustMap(t, s, mapping(16+8*n, api.Small, 0, 0))
			}
			mustHaveTables(t, s, upTo(4+few)...)
			mustCount(t, s, counts{})
		}
	}
}

func TestMapOfEachSizeForTooFewFrames(t *testing.T) {
	for _, p := range somePages {
		for size := range 3 {
			wants := 3 - size
			for few := range wants {
				s := mustNew(t, 3, 1+few)
				mustRefuse(t, s, smap(aligned(p, size, 64, 1)), api.ErrFull)
				mustHaveTables(t, s, 0)
			}
			mustMap(t, mustNew(t, 3, 1+wants), aligned(p, size, 64, 1))
		}
	}
}

// A list rises by its pages, and tables stand in the order of the ways, not in that of the steps.
func TestMapInAnyOrder(t *testing.T) {
	s := mustNew(t, 1, 10)
	mustMap(t, s, mapping(4095, api.Small, 3, 1), huge, small, large)
	mustList(t, s, small, large, huge, mapping(4095, api.Small, 3, 1))
	mustHaveTables(t, s, 0, 4, 5, 6, 1, 2, 3)
	mustCount(t, s, counts{free: 3})
}

// What is mapped there, of whatever size, has the one page in common, or all; ErrThere comes ahead of ErrFull.
func TestMapWhereSomethingIs(t *testing.T) {
	for _, p := range []int{0, 645, last} {
		for size := range 3 {
			there := aligned(p, size, 64, 3)
			for other := range 3 {
				for _, q := range []int{there.Page, p, there.Page + spans[size] - 1} {
					for _, n := range []int{4 - size, 8} {
						s := mustNew(t, 2, n)
						mustMap(t, s, there)
						mustRefuse(t, s, smap(aligned(q, other, 128, 7)), api.ErrThere)
						mustRefuse(t, s, smap(aligned(q, other, 64, 3)), api.ErrThere)
						mustList(t, s, there)
					}
				}
			}
		}
	}
}

// What is no mapping is told ahead of what is mapped there, and of frames that are wanting.
func TestMapOfWhatIsNone(t *testing.T) {
	for code, wrong := range noMaps() {
		for _, n := range []int{1, 4, 8} {
			s := mustNew(t, 1, n)
			if n > 1 {
				mustMap(t, s, aligned(64, api.Small, 1, 1))
			}
			for _, m := range wrong {
				mustRefuse(t, s, smap(m), code)
			}
		}
	}
}

// A map is over at once: no core is told, no step has to be behind it, and the next change may be begun.
func TestMapIsOverAtOnce(t *testing.T) {
	for cores := 1; cores <= 4; cores++ {
		s := mustNew(t, cores, 8)
		for _, m := range []api.Map{small, large, huge, mapping(6, api.Small, 1, 0)} {
			mustMap(t, s, m)
			mustWait(t, s)
			for core := range cores {
				mustRefuse(t, s, ack(core), api.ErrIdle)
			}
		}
		mustGo(t, s, unmap(5))
	}
}

// Neither what cores keep nor what is on its way changes by a map.
func TestMapLeavesCoresAlone(t *testing.T) {
	for _, x := range scenes() {
		s := x.reach(t)
		if s.Busy() || s.Free() == 0 {
			continue
		}
		was := look(s)
		mustMap(t, s, mapping(512, api.Huge, 64, 7))
		now := look(s)
		for core := range x.cores {
			if !now.cores[core].is(was.cores[core]) {
				t.Fatalf("the core %d: %v, want %v", core, now.cores[core], was.cores[core])
			}
		}
	}
}

// A walk finds what is mapped by the time it reads the word: on the way, and not where its way ended ahead.
func TestMapWhileAWalkIsOnItsWay(t *testing.T) {
	for steps := range 4 {
		s := mustNew(t, 1, 5)
		mustMap(t, s, small)
		mustGo(t, s, read(0, 6))
		mustGo(t, s, times(min(steps, 3), walk(0))...)
		mustMap(t, s, mapping(6, api.Small, 77, 0))
		mustEnd(t, s, 0, 4-min(steps, 3), done(77, 0))
	}
	s := mustNew(t, 2, 5)
	mustGo(t, s, read(0, 6), read(1, 6))
	mustEnd(t, s, 0, 0, notMapped)
	mustMap(t, s, mapping(6, api.Small, 77, 0))
	mustEnd(t, s, 1, 4, done(77, 0))
	mustGo(t, s, read(0, 6))
	mustEnd(t, s, 0, 3, done(77, 0))
}

// Changes look neither at Core nor at A.
func TestChangesLookAtTheMappingAlone(t *testing.T) {
	for _, n := range append([]int{0, 1, 3, 4}, farOff...) {
		s := mustNew(t, 2, 4)
		a := api.Access{Page: n, Kind: n, User: true}
		mustDo(t, s, api.Step{Kind: api.SMap, Core: n, M: small, A: a}, back)
		mustDo(t, s, api.Step{Kind: api.SMap, Core: n, M: small, A: a}, refused(api.ErrThere))
		mustGo(t, s, api.Step{Kind: api.SProtect, Core: n, M: mapping(5, n, n, 6), A: a})
		mustList(t, s, mapping(5, api.Small, 9, 6))
		mustAck(t, s, 1, 0)
		mustGo(t, s, api.Step{Kind: api.SUnmap, Core: n, M: mapping(5, n, n, n), A: a})
		mustList(t, s)
		mustDo(t, s, api.Step{Kind: api.SMap, Core: n, M: small, A: a}, refused(api.ErrBusy))
		mustAck(t, s, 0, 1)
	}
}
