package trace_test

import (
	"slices"
	"testing"

	"wayleave/api"
	"wayleave/trace"
)

// Of what is behind a Watch, what Calm's steps come to; small's page needs five steps without its mark, four with it.
var calms = []told{
	// At rest.
	{"new", 1, 1, nil, nil},
	{"new, with all that may be", 4, 128, nil, nil},
	{"a mapping", 2, 4, steps(smap(small)), nil},
	{"a line", 2, 4, steps(smap(small), read(1, 5), times(5, walk(1))), nil},
	{"a change that is over", 2, 4, steps(smap(small), unmap(5), ack(1), ack(0)), nil},
	{"an access that ended", 1, 4, steps(smap(small), read(0, last), walk(0)), nil},
	// Something to look after.
	{"one of one looks after it", 1, 4, steps(smap(small), unmap(5)), events(back)},
	{"all of two", 2, 4, steps(smap(small), protect(5, 0)), events(going, back)},
	{"all of four", 4, 4, steps(smap(small), unmap(5)), events(times(3, going), back)},
	{"the first of four", 4, 4, steps(smap(small), unmap(5), ack(1), ack(2), ack(3)), events(back)},
	{"the last of four", 4, 4, steps(smap(small), unmap(5), ack(2), ack(0), ack(1)), events(back)},
	{"some of four", 4, 4, steps(smap(small), protect(5, 7), ack(2), ack(0)), events(going, back)},
	{"a line goes", 1, 4, steps(smap(small), read(0, 5), times(5, walk(0)), unmap(5)), events(back)},
	// Accesses on their way.
	{"one that began", 1, 4, steps(smap(small), read(0, 5)), events(times(4, going), done(9, 3))},
	{"one that is nearly there", 1, 4, steps(smap(small), write(0, 5), times(4, walk(0))), events(done(9, 3))},
	{"one of nothing", 1, 4, steps(smap(small), read(0, last)), events(notMapped)},
	{"one of nothing beside", 1, 4, steps(smap(small), read(0, 6)), events(times(3, going), notMapped)},
	{"one that may not", 1, 4, steps(smap(small), begin(0, api.Access{Page: 5, Kind: api.Run})), events(times(3, going), notAllowed)},
	{"a write of a line", 1, 4, steps(smap(small), read(0, 5), times(5, walk(0)), write(0, 5)), events(times(4, going), done(9, 3))},
	{"the last of four is on its way", 4, 4, steps(smap(small), read(3, 5)), events(times(4, going), done(9, 3))},
	{"two of four, the first one last", 4, 5, steps(smap(small), smap(large), read(2, 9), read(1, 5), walk(1), times(2, walk(2))), events(times(3, going), done(9, 3), times(1, going), done(17, 7))},
	{"all of three, by the same leaf", 3, 4, steps(smap(small), read(0, 5), write(1, 5), read(2, 5)), events(times(4, going), done(9, 3), times(4, going), done(9, 3), times(3, going), done(9, 3))},
	{"a leaf that is another one by then", 2, 4, steps(smap(small), read(0, 5), write(1, 5), times(4, walk(0)), times(4, walk(1))), events(done(9, 3), times(5, going), done(9, 3))},
	{"a leaf that is marked by then", 2, 4, steps(smap(small), write(0, 5), read(1, 5), times(4, walk(0)), times(4, walk(1))), events(done(9, 3), times(4, going), done(9, 3))},
	// Both.
	{"it looks after it ahead of its way", 1, 4, steps(smap(small), read(0, 5), times(3, walk(0)), protect(5, 4)), events(back, times(4, going), done(9, 4))},
	{"a table that is none any more", 1, 4, steps(smap(small), read(0, 5), times(3, walk(0)), unmap(5)), events(back, notMapped)},
	{"a leaf whose table is none any more", 1, 4, steps(smap(small), write(0, 5), times(4, walk(0)), unmap(5)), events(back, notMapped)},
	{"a table of which those above stay", 1, 6, steps(smap(small), smap(mapping(16, api.Small, 2, 1)), read(0, 5), times(3, walk(0)), unmap(5)), events(back, times(2, going), notMapped)},
	{"one has looked after it and is on its way", 2, 4, steps(smap(small), protect(5, 1), ack(0), read(0, 5), times(2, walk(0))), events(back, times(2, going), done(9, 1))},
	{"each looks after it ahead of each way", 2, 5, steps(smap(small), smap(large), read(0, 9), times(3, walk(0)), write(1, 5), times(2, walk(1)), unmap(5)), events(going, back, times(3, going), done(17, 7), times(2, going), notMapped)},
	{"one is on its way, others look after it", 3, 4, steps(smap(small), read(1, 5), times(4, walk(1)), protect(5, 2), ack(1)), events(going, back, times(4, going), done(9, 2))},
}

func TestCalm(t *testing.T) {
	for _, x := range calms {
		t.Run(x.name, func(t *testing.T) {
			y := scene{x.cores, x.n, x.steps}.reach(t)
			if came := y.calm(t); !slices.Equal(came, x.want) {
				t.Fatalf("Calm:\n%v, want\n%v", came, x.want)
			}
			y.mustAnswer(t, somePages)
			y.mustBeAtRest(t)
		})
	}
}

// crowd is what four cores have behind them: each one has a page of its own, whose tables no other one has.
type crowd struct {
	cores   int
	waits   []bool // which cores have something to look after; none: the change is over
	on      []bool // which cores have an access on its way
	deep    int    // how many steps the first one made, each other one more than the one ahead, from none to four
	isAhead bool   // the accesses begin ahead of the change, which takes the first core's page away; else behind it, and it takes another one away
}

var pagesOfCores = []int{5, 700, 1500, last}

// depth tells how many steps a core's access made.
func (x crowd) depth(core int) int { return (x.deep + core) % 5 }

// steps tells the script that leads there.
func (x crowd) steps() []api.Step {
	ahead := steps(smap(huge))
	var accesses, acks []api.Step
	for core := range x.cores {
		ahead = append(ahead, smap(mapping(pagesOfCores[core], api.Small, 20+core, 1)))
		if x.on[core] {
			accesses = append(accesses, read(core, pagesOfCores[core]))
			accesses = append(accesses, times(x.depth(core), walk(core))...)
		}
		if !x.waits[core] {
			acks = append(acks, ack(core))
		}
	}
	if x.isAhead {
		return steps(ahead, accesses, unmap(5), acks)
	}
	return steps(ahead, unmap(128), acks, accesses)
}

// want tells what Calm is to come to: a core that was told, be it now or ahead, begins its way again.
func (x crowd) want() []api.Event {
	var all []api.Event
	for core := range x.cores {
		if x.waits[core] {
			all = append(all, going)
		}
	}
	if len(all) > 0 {
		all[len(all)-1] = back
	}
	for core := range x.cores {
		toGo := 4
		if !x.waits[core] && !x.isAhead {
			toGo -= x.depth(core)
		}
		switch {
		case !x.on[core]:
		case core == 0 && x.isAhead:
			// Of its tables none is one any more, but for those that huge needs: that is the root's, and the one below it.
			all = append(all, going, notMapped)
		default:
			all = append(all, times(toGo, going)...)
			all = append(all, done(20+core, 1))
		}
	}
	return all
}

// stepsToRest tells which steps those are.
func (x crowd) stepsToRest() []api.Step {
	var all []api.Step
	for core := range x.cores {
		if x.waits[core] {
			all = append(all, ack(core))
		}
	}
	count := len(all)
	core := 0
	for _, e := range x.want()[count:] {
		for !x.on[core] {
			core++
		}
		all = append(all, walk(core))
		if e.Ended {
			core++
		}
	}
	return all
}

// subset tells which of some cores the bits of a number name.
func subset(cores, bits int) []bool {
	var all []bool
	for core := range cores {
		all = append(all, bits>>core&1 == 1)
	}
	return all
}

// eachCrowd hands all of them to a look: each number of cores, each set of cores that have something to look after, each set of cores with an access on its way.
func eachCrowd(look func(x crowd)) {
	for cores := 1; cores <= api.MaxCores; cores++ {
		for waits := range 1 << cores {
			for on := range 1 << cores {
				for deep := range 5 {
					for _, isAhead := range []bool{false, true} {
						look(crowd{cores, subset(cores, waits), subset(cores, on), deep, isAhead})
					}
				}
			}
		}
	}
}

func TestCalmOfEachCrowd(t *testing.T) {
	count := 0
	eachCrowd(func(x crowd) {
		y := scene{x.cores, 20, x.steps()}.reach(t)
		if came := y.calm(t); !slices.Equal(came, x.want()) {
			t.Fatalf("%v: Calm:\n%v, want\n%v", x, came, x.want())
		}
		y.mustAnswer(t, pagesOfCores)
		count++
	})
	t.Logf("%d crowds", count)
}

// Each SAck comes ahead of each SWalk, cores rise, and a core that has nothing to do has no step; nothing but the kind and the core is said.
func TestStepsToRest(t *testing.T) {
	eachCrowd(func(x crowd) {
		y := scene{x.cores, 20, x.steps()}.reach(t)
		var got []api.Step
		for step := range trace.ToRest(y.w) {
			got = append(got, step)
			y.do(t, step)
		}
		if want := x.stepsToRest(); !slices.Equal(got, want) {
			t.Fatalf("%v: the steps are\n%v, want\n%v", x, got, want)
		}
		y.mustBeAtRest(t)
	})
}

// Whoever makes the steps may stop behind each of them; those that are told then go on from there.
func TestStepsToRestInParts(t *testing.T) {
	eachCrowd(func(x crowd) {
		if x.deep > 1 {
			return
		}
		want := x.stepsToRest()
		for count := 1; count <= len(want); count++ {
			y := scene{x.cores, 20, x.steps()}.reach(t)
			var got []api.Step
			for step := range trace.ToRest(y.w) {
				got = append(got, step)
				y.do(t, step)
				if len(got) == count {
					break
				}
			}
			if !slices.Equal(got, want[:count]) {
				t.Fatalf("%v: the first steps are\n%v, want\n%v", x, got, want[:count])
			}
			if came := y.calm(t); !slices.Equal(came, x.want()[count:]) {
				t.Fatalf("%v: behind %v Calm:\n%v, want\n%v", x, got, came, x.want()[count:])
			}
		}
	})
}

// Calm's steps are steps like others: a script of those ahead and of these comes to the same.
func TestCalmIsAScript(t *testing.T) {
	for _, x := range scenes() {
		y := x.reach(t)
		y.calm(t)
		mustRun(t, scene{x.cores, x.n, y.script}, y.came)
		for _, step := range more {
			y.do(t, step)
		}
		y.calm(t)
		mustRun(t, scene{x.cores, x.n, y.script}, y.came)
	}
}

// Frames that Calm makes free are taken again, by whatever is mapped then, and no access that was on its way at them is misled.
func TestFramesBehindCalm(t *testing.T) {
	for deep := range 5 {
		y := scene{2, 4, steps(smap(small), write(0, 5), times(deep, walk(0)), read(1, 5), times(deep, walk(1)), unmap(5))}.reach(t)
		if y.w.Free() != 0 || y.w.Gone() != 3 {
			t.Fatalf("%d frames are free, %d will be", y.w.Free(), y.w.Gone())
		}
		if came := y.calm(t); !slices.Equal(came, events(going, back, notMapped, notMapped)) {
			t.Fatalf("Calm: %v", came)
		}
		if y.w.Free() != 3 || !slices.Equal(y.w.Tables(), []int{0}) {
			t.Fatalf("%d frames are free, the tables are %v", y.w.Free(), y.w.Tables())
		}
		if e := y.do(t, smap(mapping(last, api.Small, 1, 1))); e != back {
			t.Fatalf("a mapping: %v", e)
		}
		y.mustAnswer(t, somePages)
	}
}

// The document's examples, by Calm: three frames are free, and the page is not mapped.
func TestCalmOfTheExamples(t *testing.T) {
	y := scene{1, 4, steps(smap(mapping(5, api.Small, 9, 1)), read(0, 5))}.reach(t)
	if came := y.calm(t); !slices.Equal(came, events(times(4, going), done(9, 1))) || y.w.Free() != 0 {
		t.Fatalf("Calm: %v, with %d frames free", came, y.w.Free())
	}
	y.do(t, unmap(5))
	if e := y.do(t, read(0, 5)); e != done(9, 1) {
		t.Fatalf("by what the core keeps: %v", e)
	}
	if came := y.calm(t); !slices.Equal(came, events(back)) || y.w.Free() != 3 {
		t.Fatalf("Calm: %v, with %d frames free", came, y.w.Free())
	}
	if _, _, code := y.w.Find(5); code != api.ErrNone {
		t.Fatalf("Find: the code %d", code)
	}
}

// Calm of one Watch changes no other one, and comes to the same whatever was done to others.
func TestCalmOfTwoWatches(t *testing.T) {
	for _, x := range scenes() {
		one := x.reach(t)
		was := look(one.w)
		for _, y := range scenes() {
			two := y.reach(t)
			two.calm(t)
			mustLookLike(t, one.w, was)
		}
		one.calm(t)
	}
}

// Lists that were answered are new memory: what is written there, or behind them, is seen neither elsewhere nor by the Watch.
func TestCalmTellsNewMemory(t *testing.T) {
	for _, x := range scenes() {
		y, z := x.reach(t), x.reach(t)
		one, _ := trace.Calm(y.w)
		was, kept := look(y.w), slices.Clone(one)
		two, _ := trace.Calm(z.w)
		spoil(two, api.Event{Code: -7})
		if !slices.Equal(one, kept) {
			t.Fatal("two answers share memory")
		}
		mustLookLike(t, z.w, was)
		for _, step := range more {
			mustDo(t, y.w, step)
		}
		trace.Calm(y.w)
		if !slices.Equal(one, kept) {
			t.Fatal("an answer of before is another one")
		}
	}
}
