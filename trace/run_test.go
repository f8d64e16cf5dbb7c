package trace_test

import (
	"slices"
	"testing"

	"wayleave/api"
	"wayleave/trace"
)

var (
	noSuch  = api.Fault{Code: api.ErrRange, At: -1}
	tooMany = api.Fault{Code: api.ErrMany, At: -1}
)

// told is a script, and what its steps come to.
type told struct {
	name     string
	cores, n int
	steps    []api.Step
	want     []api.Event
}

// The first two are the document's examples.
var scripts = []told{
	{"a mapping and an access", 1, 4, steps(smap(mapping(5, api.Small, 9, 1)), read(0, 5), times(5, walk(0)), walk(0)), events(back, times(5, going), done(9, 1), refused(api.ErrIdle))},
	{"an unmap", 1, 4, steps(smap(small), read(0, 5), times(5, walk(0)), unmap(5), read(0, 5), ack(0), read(0, 5), walk(0), smap(mapping(last, api.Small, 1, 1))), events(back, times(5, going), done(9, 3), going, done(9, 3), back, going, notMapped, back)},
	{"as full as can be", 1, 4, steps(smap(small), smap(mapping(last, api.Small, 1, 1)), unmap(5), smap(mapping(last, api.Small, 1, 1)), ack(0), smap(mapping(last, api.Small, 1, 1))), events(back, refused(api.ErrFull), going, refused(api.ErrBusy), back, back)},
	{"rights that go", 2, 4, steps(smap(small), write(1, 5), times(5, walk(1)), protect(5, 2), write(1, 5), ack(1), write(1, 5), times(4, walk(1)), ack(0), ack(0)), events(back, times(5, going), done(9, 3), going, done(9, 3), going, going, times(3, going), notAllowed, back, refused(api.ErrIdle))},
	{"sizes", 1, 4, steps(smap(huge), smap(large), read(0, 190), times(3, walk(0)), begin(0, api.Access{Page: 15, Kind: api.Run, User: true}), times(4, walk(0)), evict(0), evict(0), evict(0)), events(back, back, times(3, going), done(702, 0), times(4, going), done(23, 7), going, going, refused(api.ErrIdle))},
	{"no step of a kind", 1, 1, steps(api.Step{}, api.Step{Kind: 8}, api.Step{Kind: -1}), times(3, refused(api.ErrKind))},
	{"no core", 3, 1, steps(read(3, 5), walk(-1), ack(4), evict(3)), times(4, refused(api.ErrRange))},
	{"nothing to do", 2, 1, steps(walk(0), ack(1), evict(0), unmap(5), protect(5, 1), smap(small), smap(mapping(last, api.Huge, 0, 0))), events(times(3, refused(api.ErrIdle)), times(2, refused(api.ErrNone)), refused(api.ErrFull), refused(api.ErrAlign))},
}

func TestRun(t *testing.T) {
	for _, x := range scripts {
		t.Run(x.name, func(t *testing.T) {
			mustRun(t, scene{x.cores, x.n, x.steps}, x.want)
		})
	}
}

// Of each number of cores and of frames that may be.
func TestRunOfNoSteps(t *testing.T) {
	for cores := 1; cores <= api.MaxCores; cores++ {
		for n := 1; n <= api.MaxFrames; n++ {
			mustRun(t, scene{cores, n, nil}, nil)
			mustRun(t, scene{cores, n, []api.Step{}}, nil)
		}
	}
}

// From the beginning nothing is mapped, kept, told or on its way.
func TestRunOfOneStep(t *testing.T) {
	for cores := 1; cores <= api.MaxCores; cores++ {
		for n := 1; n <= api.MaxFrames; n++ {
			inOne, inFour := refused(api.ErrFull), refused(api.ErrFull)
			if n >= 2 {
				inOne = back
			}
			if n >= 4 {
				inFour = back
			}
			for core := range api.MaxCores {
				access, idle := going, refused(api.ErrIdle)
				if core >= cores {
					access, idle = refused(api.ErrRange), refused(api.ErrRange)
				}
				for _, x := range []struct {
					step api.Step
					want api.Event
				}{
					{smap(huge), inOne}, {smap(small), inFour}, {unmap(5), refused(api.ErrNone)}, {protect(5, 1), refused(api.ErrNone)},
					{read(core, 5), access}, {walk(core), idle}, {ack(core), idle}, {evict(core), idle}, {api.Step{Core: core}, refused(api.ErrKind)},
				} {
					mustRun(t, scene{cores, n, steps(x.step)}, events(x.want))
				}
			}
		}
	}
}

// As many steps as may be, and more, of which none is looked at.
func TestRunOfManySteps(t *testing.T) {
	if api.MaxSteps != 2000 {
		t.Fatal("the tests count on another limit than that of package api")
	}
	round := steps(smap(small), read(0, 5), times(5, walk(0)), unmap(5), ack(1), ack(0))
	came := events(back, times(5, going), done(9, 3), going, going, back)
	for _, count := range []int{1998, 1999, 2000} {
		mustRun(t, scene{2, 4, slices.Repeat(round, 200)[:count]}, slices.Repeat(came, 200)[:count])
		mustRun(t, scene{4, 128, times(count, api.Step{})}, times(count, refused(api.ErrKind)))
	}
	for _, count := range []int{2001, 2002, 2010, 4000, 4096, 1 << 16, 1<<16 + 1, 1 << 20} {
		mustNotRun(t, scene{2, 4, slices.Repeat(round, count/10+1)[:count]}, tooMany)
		mustNotRun(t, scene{1, 1, times(count, api.Step{})}, tooMany)
		mustNotRun(t, scene{4, 128, times(count, walk(-1))}, tooMany)
	}
}

// What may not be of cores and frames is told ahead of all else, whatever the steps are, and however many.
func TestRunOfWrongNumbers(t *testing.T) {
	noCores := append([]int{0, 5, 6, 8, 128, 256 + 1}, farOff...)
	noFrames := append([]int{0, 129, 130, 256, 256 + 1}, farOff...)
	lists := [][]api.Step{nil, steps(smap(small)), steps(api.Step{Kind: -1, Core: -1}), times(2000, walk(0)), times(2001, walk(0)), times(5000, api.Step{})}
	for _, l := range lists {
		for _, cores := range noCores {
			for _, n := range append([]int{1, 4, 128}, noFrames...) {
				mustNotRun(t, scene{cores, n, l}, noSuch)
			}
		}
		for _, n := range noFrames {
			for cores := 1; cores <= 4; cores++ {
				mustNotRun(t, scene{cores, n, l}, noSuch)
			}
		}
	}
}

// Each event is what a Watch's step comes to of which the same was asked, and what a Space's does.
func TestRunIsAWatch(t *testing.T) {
	for _, x := range scenes() {
		y := x.reach(t)
		mustRun(t, x, y.came)
		for _, step := range more {
			y.do(t, step)
		}
		mustRun(t, scene{x.cores, x.n, y.script}, y.came)
	}
}

// more are steps that have much to do in most scenes.
var more = steps(unmap(12), unmap(5), ack(0), ack(1), ack(2), ack(3), smap(mapping(4032, api.Huge, 0, 7)), smap(mapping(6, api.Small, 0, 7)), read(0, 6), read(1, 6), times(5, walk(0)), times(5, walk(1)), evict(0), evict(1), protect(6, 0), read(0, 6), ack(0), walk(0), smap(small), api.Step{}, walk(9))

// A script's beginning comes to the beginning of what the script comes to; what lies behind the list's length is not looked at.
func TestBeginnings(t *testing.T) {
	for _, x := range scenes() {
		all := steps(x.steps, more)
		came, _ := trace.Run(x.cores, x.n, all)
		if len(came) != len(all) {
			t.Fatalf("%d events of %d steps", len(came), len(all))
		}
		for count := range all {
			mustRun(t, scene{x.cores, x.n, all[:count]}, came[:count])
			mustRun(t, scene{x.cores, x.n, slices.Clone(all[:count])}, came[:count])
		}
	}
	full := times(4000, walk(0))
	mustRun(t, scene{1, 1, full[:2000]}, times(2000, refused(api.ErrIdle)))
}

// What a script comes to does not hang on what another one did, nor on a Calm, nor on how often it was run.
func TestRunAgain(t *testing.T) {
	var first [][]api.Event
	for _, x := range scenes() {
		came, _ := trace.Run(x.cores, x.n, steps(x.steps, more))
		first = append(first, came)
	}
	w := mustNew(t, 2, 5)
	for n, x := range scenes() {
		y := scene{x.cores, x.n, steps(x.steps, more)}
		mustRun(t, y, first[n])
		for _, z := range scenes() {
			trace.Run(z.cores, z.n, z.steps)
		}
		trace.Run(y.cores, y.n, times(3000, walk(0)))
		trace.Run(-1, y.n, y.steps)
		mustDo(t, w, read(n%2, 5))
		trace.Calm(w)
		mustRun(t, y, first[n])
		mustRun(t, y, first[n])
	}
}

// A list that was handed in is as it was behind the call, and what lies behind its length, too; it is not kept.
func TestRunTakesNothing(t *testing.T) {
	mark := api.Step{Kind: -7, Core: -7, M: mapping(-7, -7, -7, -7), A: api.Access{Page: -7, Kind: -7}}
	for _, x := range append(scenes(), scene{0, 1, more}, scene{1, 0, more}, scene{1, 1, times(2001, read(0, 5))}, scene{1, 4, times(2000, read(0, 5))}) {
		memory := steps(x.steps, more, times(9, mark))
		was := slices.Clone(memory)
		l := memory[:len(x.steps)]
		came, fault := trace.Run(x.cores, x.n, l)
		if !slices.Equal(memory, was) {
			t.Fatalf("Run(%d, %d) changed what it was handed", x.cores, x.n)
		}
		kept := slices.Clone(came)
		spoil(memory, mark)
		if !slices.Equal(came, kept) {
			t.Fatal("what was answered hangs on what was handed in, behind the call")
		}
		if again, faultAgain := trace.Run(x.cores, x.n, was[:len(l)]); !slices.Equal(again, came) || faultAgain != fault {
			t.Fatalf("Run(%d, %d) again: %v, %v, want %v, %v", x.cores, x.n, again, faultAgain, came, fault)
		}
	}
}

// Lists that were answered are new memory: what is written there, or behind them, is seen in no other one.
func TestRunTellsNewMemory(t *testing.T) {
	mark := api.Event{Code: -7}
	for _, x := range scenes() {
		y := scene{x.cores, x.n, steps(x.steps, more)}
		one, _ := trace.Run(y.cores, y.n, y.steps)
		was := slices.Clone(one)
		two, _ := trace.Run(y.cores, y.n, y.steps)
		spoil(two, mark)
		mustRun(t, y, was)
		if !slices.Equal(one, was) {
			t.Fatal("two answers share memory")
		}
		spoil(one, mark)
		mustRun(t, y, was)
	}
}

// spoil writes into a list, and behind it as far as its memory goes.
func spoil[T any](list []T, x T) {
	list = list[:cap(list)]
	for i := range list {
		list[i] = x
	}
}
