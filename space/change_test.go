package space_test

import (
	"slices"
	"testing"

	"wayleave/api"
	"wayleave/space"
)

// The mapping of each size goes by each of its pages: at once from the tables, which are in use till each core has looked after it.
func TestUnmap(t *testing.T) {
	for _, p := range []int{0, 645, last} {
		for size := range 3 {
			m := aligned(p, size, 64, 5)
			for i := range spans[size] {
				s := mustNew(t, 2, 6)
				mustMap(t, s, m)
				mustCount(t, s, counts{free: 2 + size})
				mustWait(t, s)
				mustGo(t, s, unmap(m.Page+i))
				mustCount(t, s, counts{busy: true, free: 2 + size, gone: 3 - size})
				mustWait(t, s, 0, 1)
				mustList(t, s)
				mustHaveTables(t, s, 0)
				mustNotFind(t, s, api.ErrNone, m.Page, m.Page+i)
				mustGo(t, s, ack(1))
				mustCount(t, s, counts{busy: true, free: 2 + size, gone: 3 - size})
				mustAck(t, s, 0)
				mustCount(t, s, counts{free: 5})
				mustWait(t, s)
				mustHaveTables(t, s, 0)
				mustNotFind(t, s, api.ErrNone, m.Page, m.Page+i)
			}
		}
	}
}

// Tables that lead to something else stay.
func TestUnmapBesideSomething(t *testing.T) {
	for _, x := range []struct {
		beside api.Map
		gone   int
		tables []int
	}{
		{mapping(4, api.Small, 1, 7), 0, []int{0, 1, 2, 3}},
		{mapping(8, api.Large, 8, 7), 1, []int{0, 1, 2}},
		{mapping(8, api.Small, 8, 7), 1, []int{0, 1, 2, 4}},
		{mapping(64, api.Huge, 64, 7), 2, []int{0, 1}},
		{mapping(64, api.Large, 64, 7), 2, []int{0, 1, 4}},
		{mapping(512, api.Huge, 64, 7), 3, []int{0, 4}},
		{mapping(last, api.Small, 64, 7), 3, []int{0, 4, 5, 6}},
	} {
		s := mustNew(t, 1, 10)
		mustMap(t, s, small, x.beside)
		free := s.Free()
		mustGo(t, s, unmap(5))
		mustCount(t, s, counts{busy: true, free: free, gone: x.gone})
		mustList(t, s, x.beside)
		mustHaveTables(t, s, x.tables...)
		mustAck(t, s, 0)
		mustCount(t, s, counts{free: free + x.gone})
		mustList(t, s, x.beside)
		mustHaveTables(t, s, x.tables...)
		mustFind(t, s, x.beside, false, false)
	}
}

// Of a mapping of each size the pages ahead of it and behind it are not mapped, nor is anything in a Space that is new.
func TestChangeOfWhatIsNotMapped(t *testing.T) {
	for size := range 3 {
		m := aligned(645, size, 64, 5)
		s := mustNew(t, 2, 6)
		mustRefuse(t, s, unmap(m.Page), api.ErrNone)
		mustRefuse(t, s, protect(m.Page, 1), api.ErrNone)
		mustMap(t, s, m)
		for _, p := range []int{0, m.Page - 1, m.Page + spans[size], last} {
			mustRefuse(t, s, unmap(p), api.ErrNone)
			for rights := range 8 {
				mustRefuse(t, s, protect(p, rights), api.ErrNone)
			}
		}
		for _, p := range farOff {
			mustRefuse(t, s, unmap(p), api.ErrRange)
			mustRefuse(t, s, protect(p, 1), api.ErrRange)
			mustRefuse(t, s, protect(p, p), api.ErrRange)
		}
		mustList(t, s, m)
	}
}

// A mapping that went can't go again, nor have other rights.
func TestChangeOfWhatWent(t *testing.T) {
	s := mustNew(t, 1, 6)
	mustMap(t, s, large)
	mustGo(t, s, unmap(9))
	mustAck(t, s, 0)
	for p := large.Page; p < large.Page+8; p++ {
		mustRefuse(t, s, unmap(p), api.ErrNone)
		mustRefuse(t, s, protect(p, 2), api.ErrNone)
	}
}

// The mapping of each size has each of the rights, by each of its pages, also those that it has: at once in the tables; its marks stay, and no table goes.
func TestProtect(t *testing.T) {
	for size := range 3 {
		m := aligned(645, size, 64, 5)
		for _, i := range slices.Compact([]int{0, spans[size] / 2, spans[size] - 1}) {
			for rights := range 8 {
				for _, kind := range []int{-1, api.Read, api.Write} {
					s := mustNew(t, 2, 6)
					mustMap(t, s, m)
					if kind >= 0 {
						mustKeep(t, s, 1, 645, kind == api.Write)
					}
					mustProtect(t, s, m, m.Page+i, rights, kind >= 0, kind == api.Write)
				}
			}
		}
	}
}

// mustProtect fails unless a mapping that is alone in a Space of two cores has other rights, and these marks, and it is over when both have looked after it.
func mustProtect(t *testing.T, s *space.Space, m api.Map, p, rights int, used, dirty bool) {
	t.Helper()
	free, tables := s.Free(), s.Tables()
	mustFind(t, s, m, used, dirty)
	mustGo(t, s, protect(p, rights))
	m.Rights = rights
	for _, cores := range [][]int{{0, 1}, {1}, nil} {
		mustCount(t, s, counts{busy: len(cores) > 0, free: free})
		mustWait(t, s, cores...)
		mustList(t, s, m)
		mustFind(t, s, m, used, dirty)
		mustHaveTables(t, s, tables...)
		if len(cores) == 2 {
			mustGo(t, s, ack(0))
		} else if len(cores) == 1 {
			mustAck(t, s, 1)
		}
	}
}

// Rights that are none are told ahead of pages that are none or are not mapped.
func TestProtectWithRightsThatAreNone(t *testing.T) {
	s := mustNew(t, 2, 6)
	mustMap(t, s, small)
	for _, rights := range noRights {
		for _, p := range []int{5, 4, 0, last, -1, api.Pages} {
			mustRefuse(t, s, protect(p, rights), api.ErrRange)
		}
	}
	mustFind(t, s, small, false, false)
}

// While a change is not over no other one is begun, whatever else there is to say of it: ErrBusy comes first. Behind the last SAck it is begun.
func TestChangeWhileAnotherIsNotOver(t *testing.T) {
	others := []api.Step{
		smap(mapping(6, api.Small, 1, 1)), smap(small), smap(large), smap(mapping(512, api.Small, 1, 1)), smap(mapping(-1, 9, -1, 9)),
		unmap(5), unmap(12), unmap(7), unmap(-1), protect(5, 3), protect(12, 0), protect(7, 1), protect(12, 8), protect(api.Pages, -1),
	}
	for cores := 1; cores <= 4; cores++ {
		for _, change := range []api.Step{unmap(5), unmap(12), protect(5, 0), protect(12, 7)} {
			for _, order := range orders(upTo(cores)) {
				s := mustNew(t, cores, 5)
				mustMap(t, s, small, large)
				mustGo(t, s, change)
				for n, core := range order {
					for _, x := range others {
						mustRefuse(t, s, x, api.ErrBusy)
					}
					mustWait(t, s, order[n:]...)
					mustDo(t, s, ack(core), map[bool]api.Event{false: going, true: back}[n == cores-1])
				}
				mustMap(t, s, mapping(6, api.Small, 1, 1))
				mustGo(t, s, unmap(6))
			}
		}
	}
}

// Behind each change that is over each other one may be begun.
func TestChangeBehindAnother(t *testing.T) {
	for _, first := range []api.Step{unmap(5), protect(5, 1), unmap(12), protect(12, 1)} {
		for _, second := range []api.Step{unmap(130), protect(130, 1), smap(mapping(192, api.Huge, 64, 1))} {
			s := mustNew(t, 2, 5)
			mustMap(t, s, small, large, huge)
			mustGo(t, s, first)
			mustAck(t, s, 0, 1)
			if second.Kind == api.SMap {
				mustDo(t, s, second, back)
				continue
			}
			mustGo(t, s, second)
			mustWait(t, s, 0, 1)
			mustAck(t, s, 1, 0)
		}
	}
}

// Unmaps of all that is mapped, in some orders, looked after: every frame but the root's is free, and all can be mapped again.
func TestUnmapOfAll(t *testing.T) {
	all := []api.Map{small, mapping(6, api.Small, 3, 3), large, huge, mapping(192, api.Large, 8, 1), mapping(201, api.Small, 8, 1), mapping(1024, api.Huge, 64, 1), mapping(last, api.Small, 64, 1)}
	for shift := range all {
		order := append(slices.Clone(all[shift:]), all[:shift]...)
		for range 2 {
			s := mustNew(t, 2, 20)
			for range 2 {
				mustMap(t, s, all...)
				for _, m := range order {
					mustGo(t, s, unmap(m.Page))
					mustAck(t, s, 0, 1)
				}
				mustCount(t, s, counts{free: 19})
				mustHaveTables(t, s, 0)
				mustList(t, s)
			}
			slices.Reverse(order)
		}
	}
}

// The tables that go are free in the order in which they were told, the lowest one first: the one that was given back last, the highest, is taken first, and all of them ahead of those that were never in use.
func TestTablesAreFreeInOrder(t *testing.T) {
	for cores := 1; cores <= 4; cores++ {
		s := mustNew(t, cores, 12)
		mustMap(t, s, small)
		mustHaveTables(t, s, 0, 1, 2, 3)
		mustGo(t, s, unmap(5))
		mustAck(t, s, upTo(cores)...)
		mustMap(t, s, mapping(last, api.Small, 0, 0))
		mustHaveTables(t, s, 0, 1, 2, 3)
		mustMap(t, s, small)
		mustHaveTables(t, s, 0, 4, 5, 6, 1, 2, 3)
		mustGo(t, s, unmap(last))
		mustAck(t, s, upTo(cores)...)
		mustGo(t, s, unmap(5))
		mustAck(t, s, upTo(cores)...)
		mustCount(t, s, counts{free: 11})
		// 3, 2, 1 were given back, then 6, 5, 4.
		mustMap(t, s, mapping(64, api.Huge, 64, 0))
		mustHaveTables(t, s, 0, 4)
		mustMap(t, s, mapping(0, api.Large, 64, 0))
		mustHaveTables(t, s, 0, 4, 5)
		mustMap(t, s, mapping(8, api.Small, 64, 0))
		mustHaveTables(t, s, 0, 4, 5, 6)
		mustMap(t, s, mapping(512, api.Small, 64, 0))
		mustHaveTables(t, s, 0, 4, 5, 6, 1, 2, 3)
		mustMap(t, s, mapping(1024, api.Large, 64, 0))
		mustHaveTables(t, s, 0, 4, 5, 6, 1, 2, 3, 7, 8)
	}
}
