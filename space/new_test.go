package space_test

import (
	"math"
	"slices"
	"testing"

	"wayleave/api"
	"wayleave/space"
	"wayleave/tlb"
)

func TestLimits(t *testing.T) {
	if api.MaxCores != 4 || api.MaxFrames != 128 || api.MaxTLB != 6 || api.Levels != 4 || api.Fan != 8 || api.Pages != 4096 {
		t.Fatal("the tests count on other limits than those of package api")
	}
}

// Each number of cores and of frames that may be, the least and the greatest ones among them.
func TestNew(t *testing.T) {
	for cores := 1; cores <= 4; cores++ {
		for n := 1; n <= 128; n++ {
			s := mustNew(t, cores, n)
			if s.Cores() != cores {
				t.Fatalf("New(%d, %d) has %d cores", cores, n, s.Cores())
			}
			mustCount(t, s, counts{free: n - 1})
			mustList(t, s)
			mustHaveTables(t, s, 0)
			mustNotFind(t, s, api.ErrNone, somePages...)
			mustWait(t, s)
			for core := range cores {
				mustHaveKept(t, s, core)
				mustNotBeOn(t, s, core)
				mustRefuse(t, s, walk(core), api.ErrIdle)
				mustRefuse(t, s, ack(core), api.ErrIdle)
				mustRefuse(t, s, evict(core), api.ErrIdle)
			}
			mustRefuse(t, s, walk(cores), api.ErrRange)
		}
	}
}

func TestNewOfWrongNumbers(t *testing.T) {
	noCores := append([]int{0, 5, 6, 8, 128, 256 + 1}, farOff...)
	noFrames := append([]int{0, 129, 130, 256, 256 + 1}, farOff...)
	for _, cores := range noCores {
		for _, n := range append([]int{1, 4, 127, 128}, noFrames...) {
			mustNotNew(t, cores, n)
		}
	}
	for _, n := range noFrames {
		for cores := 1; cores <= 4; cores++ {
			mustNotNew(t, cores, n)
		}
	}
}

func mustNotNew(t *testing.T, cores, n int) {
	t.Helper()
	if s, fault := space.New(cores, n); s != nil || fault != (api.Fault{Code: api.ErrRange, At: -1}) {
		t.Fatalf("New(%d, %d): %v, %v, want nothing, ErrRange at -1", cores, n, s, fault)
	}
}

// The document's examples: one core, four frames, a mapping of the page 5.
func TestExamples(t *testing.T) {
	s := mustNew(t, 1, 4)
	m := mapping(5, api.Small, 9, 1)
	mustMap(t, s, m)
	mustCount(t, s, counts{})
	mustHaveTables(t, s, 0, 1, 2, 3)
	mustGo(t, s, read(0, 5))
	mustEnd(t, s, 0, 4, done(9, 1))
	mustGo(t, s, unmap(5))
	mustDo(t, s, read(0, 5), done(9, 1))
	mustCount(t, s, counts{busy: true, gone: 3})
	mustAck(t, s, 0)
	mustCount(t, s, counts{free: 3})
	mustGo(t, s, read(0, 5))
	mustEnd(t, s, 0, 0, notMapped)
	mustNotFind(t, s, api.ErrNone, 5)
}

// A root's table alone: nothing can be mapped, for each size wants a table at least.
func TestOneFrame(t *testing.T) {
	s := mustNew(t, 4, 1)
	for size := range 3 {
		mustRefuse(t, s, smap(aligned(645, size, 64, 7)), api.ErrFull)
	}
	for core := range 4 {
		mustGo(t, s, read(core, 645))
		mustBeOn(t, s, core, api.Access{Page: 645})
		mustEnd(t, s, core, 0, notMapped)
		mustNotBeOn(t, s, core)
	}
}

// As many frames as may be, all of them tables: a small mapping in each of many places.
func TestAllFrames(t *testing.T) {
	s := mustNew(t, 1, 128)
	var all []api.Map
	for p := 0; s.Free() > 0; p += 8 {
		m := mapping(p, api.Small, p+1, 1)
		if e := s.Do(smap(m)); e != back {
			t.Fatalf("Do(%v): %v", smap(m), e)
		}
		all = append(all, m)
	}
	mustList(t, s, all...)
	if tables := s.Tables(); len(tables) != 128 {
		t.Fatalf("%d tables, want 128", len(tables))
	}
	mustRefuse(t, s, smap(mapping(last, api.Small, 0, 0)), api.ErrFull)
	mustMap(t, s, mapping(1, api.Small, 0, 0))
}

// What is asked of one Space changes no other one, in whatever scene both are.
func TestTwoSpaces(t *testing.T) {
	more := []api.Step{unmap(12), unmap(5), ack(0), ack(1), ack(2), smap(mapping(4032, api.Huge, 0, 7)), smap(mapping(6, api.Small, 0, 7)), read(0, 6), read(1, 6), walk(0), walk(1), evict(0), evict(1)}
	for _, x := range scenes() {
		one := x.reach(t)
		was := look(one)
		for _, y := range scenes() {
			two := y.reach(t)
			mustLookLike(t, one, was)
			for _, step := range more {
				two.Do(step)
			}
			mustLookLike(t, one, was)
		}
		alone := x.reach(t)
		for _, step := range more {
			mustDo(t, one, step, alone.Do(step))
		}
		mustLookLike(t, one, look(alone))
	}
}

// To ask changes nothing, and lists that were answered are new memory: neither what is written there, nor a later step, is seen elsewhere.
func TestListsAreNewMemory(t *testing.T) {
	for _, x := range scenes() {
		s := x.reach(t)
		was := look(s)
		for range 2 {
			spoil(s.List(), api.Map{Page: -1})
			spoil(s.Tables(), -1)
			for core := range s.Cores() {
				spoil(s.Kept(core), tlb.Line{M: api.Map{Page: -1}})
			}
			mustLookLike(t, s, was)
		}
		kept := look(s)
		for _, step := range []api.Step{unmap(5), ack(0), ack(1), ack(2), evict(0), evict(1), smap(mapping(4, api.Small, 1, 7)), read(0, 4), walk(0), walk(0), walk(0), walk(0), walk(0)} {
			s.Do(step)
		}
		if !kept.is(was) {
			t.Fatalf("lists of before are %v, want %v", kept, was)
		}
	}
}

// spoil writes into a list, and behind it as far as its memory goes.
func spoil[T any](list []T, x T) {
	list = list[:cap(list)]
	for i := range list {
		list[i] = x
	}
}

// Neither Kept nor On nor Waits knows a core that is none; cores that others have are none, too.
func TestCoresThatAreNone(t *testing.T) {
	for _, x := range scenes() {
		s := x.reach(t)
		was := look(s)
		for _, core := range noCoresOf(x.cores) {
			if got := lookAtCore(s, core); !got.is(onCore{}) {
				t.Fatalf("of the core %d is told %v, want nothing", core, got)
			}
		}
		mustLookLike(t, s, was)
	}
}

func TestFindOfPagesThatAreNone(t *testing.T) {
	for _, x := range scenes() {
		mustNotFind(t, x.reach(t), api.ErrRange, farOff...)
	}
}

// Two Spaces of which the same is asked answer the same.
func TestSameAsked(t *testing.T) {
	for _, x := range scenes() {
		one, two := x.reach(t), x.reach(t)
		mustLookLike(t, one, look(two))
		for _, step := range slices.Concat([]api.Step{evict(0), walk(0), unmap(9), ack(math.MaxInt)}, times(6, walk(1)), []api.Step{ack(1), ack(0), ack(2), smap(small)}) {
			mustDo(t, one, step, two.Do(step))
			mustLookLike(t, one, look(two))
		}
	}
}
