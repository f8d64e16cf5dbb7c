package watch_test

import (
	"slices"
	"testing"

	"wayleave/api"
	"wayleave/tlb"
	"wayleave/watch"
)

// Each number of cores and of frames that may be, the least and the greatest ones among them.
func TestNew(t *testing.T) {
	if api.MaxCores != 4 || api.MaxFrames != 128 {
		t.Fatal("the tests count on other limits than those of package api")
	}
	for cores := 1; cores <= 4; cores++ {
		for n := 1; n <= 128; n++ {
			w := mustNew(t, cores, n)
			mustHaveTimes(t, w, 0)
			if w.Cores() != cores || w.Free() != n-1 || w.Gone() != 0 || w.Busy() || len(w.List()) != 0 || !slices.Equal(w.Tables(), []int{0}) {
				t.Fatalf("New(%d, %d) is %v", cores, n, look(w))
			}
			mustLookLike(t, w, look(mustNewSpace(t, cores, n)))
			for core := range cores {
				mustGo(t, w, read(core, 645))
				mustDo(t, w, walk(core), notMapped)
			}
			mustHaveTimes(t, w, 0)
		}
	}
}

func TestNewOfWrongNumbers(t *testing.T) {
	noCores := append([]int{0, 5, 6, 8, 128, 256 + 1}, farOff...)
	noFrames := append([]int{0, 129, 130, 256, 256 + 1}, farOff...)
	for _, cores := range noCores {
		for _, n := range append([]int{1, 4, 127, 128}, noFrames...) {
			mustNotNew(t, cores, n)
		}
	}
	for _, n := range noFrames {
		for cores := 1; cores <= 4; cores++ {
			mustNotNew(t, cores, n)
		}
	}
}

func mustNotNew(t *testing.T, cores, n int) {
	t.Helper()
	if w, fault := watch.New(cores, n); w != nil || fault != (api.Fault{Code: api.ErrRange, At: -1}) {
		t.Fatalf("New(%d, %d): %v, %v, want nothing, ErrRange at -1", cores, n, w, fault)
	}
}

// The document's examples: one core, four frames, a mapping of the page 5.
func TestExamples(t *testing.T) {
	w := mustNew(t, 1, 4)
	mustMap(t, w, mapping(5, api.Small, 9, 1))
	if w.Free() != 0 || !slices.Equal(w.Tables(), []int{0, 1, 2, 3}) {
		t.Fatalf("Free: %d, Tables: %v", w.Free(), w.Tables())
	}
	mustGo(t, w, read(0, 5))
	mustEnd(t, w, 0, 4, done(9, 1))
	mustGo(t, w, unmap(5))
	mustDo(t, w, read(0, 5), done(9, 1))
	mustAck(t, w, 0)
	if _, _, code := w.Find(5); w.Free() != 3 || code != api.ErrNone {
		t.Fatalf("Free: %d, Find: the code %d", w.Free(), code)
	}
	mustGo(t, w, read(0, 5))
	mustEnd(t, w, 0, 0, notMapped)
}

// more are steps that have much to do in most scenes.
var more = steps(unmap(12), unmap(5), ack(0), ack(1), ack(2), smap(mapping(4032, api.Huge, 0, 7)), smap(mapping(6, api.Small, 0, 7)), read(0, 6), read(1, 6), times(5, walk(0)), times(5, walk(1)), evict(0), evict(1), protect(6, 0), read(0, 6), ack(0), walk(0))

// What is asked of one Watch changes no other one, in whatever scene both are.
func TestTwoWatches(t *testing.T) {
	for _, x := range scenes() {
		one, s := x.reach(t)
		was, count := look(one), one.Times()
		for _, y := range scenes() {
			two, _ := y.reach(t)
			for _, step := range more {
				two.Do(step)
			}
			mustLookLike(t, one, was)
			mustHaveTimes(t, one, count)
		}
		for _, step := range more {
			mustDo(t, one, step, s.Do(step))
		}
		mustLookLike(t, one, look(s))
	}
}

// Two Watches of which the same is asked answer the same.
func TestSameAsked(t *testing.T) {
	for _, x := range scenes() {
		one, _ := x.reach(t)
		two, _ := x.reach(t)
		for _, step := range more {
			e, fault := two.Do(step)
			if fault != (api.Fault{}) {
				t.Fatalf("Do(%v): the fault %v", step, fault)
			}
			mustDo(t, one, step, e)
			mustHaveTimes(t, one, two.Times())
			mustLookLike(t, one, look(two))
		}
	}
}

// To ask changes nothing, and lists that were answered are new memory: neither what is written there, nor a later step, is seen elsewhere.
func TestListsAreNewMemory(t *testing.T) {
	for _, x := range scenes() {
		w, s := x.reach(t)
		was := look(w)
		for range 2 {
			spoil(w.List(), api.Map{Page: -1})
			spoil(w.Tables(), -1)
			for core := range w.Cores() {
				spoil(w.Kept(core), tlb.Line{M: api.Map{Page: -1}})
			}
			mustLookLike(t, w, was)
		}
		kept := look(w)
		for _, step := range more {
			mustDo(t, w, step, s.Do(step))
			spoil(w.List(), api.Map{Page: -1})
		}
		if !kept.is(was) {
			t.Fatalf("lists of before are %v, want %v", kept, was)
		}
	}
}

// spoil writes into a list, and behind it as far as its memory goes.
func spoil[T any](list []T, x T) {
	list = list[:cap(list)]
	for i := range list {
		list[i] = x
	}
}
