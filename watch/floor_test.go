package watch_test

import (
	"testing"

	"wayleave/api"
	"wayleave/watch"
)

// A Watch never tells a fault of itself. So that it can be seen that it looks, and from which time on, these tests go behind its back: they make steps of the Space that it is, of which it does not know.

// part is some steps, of the Watch or behind its back.
type part struct {
	isHidden bool
	steps    []api.Step
}

func seen(parts ...any) part { return part{steps: steps(parts...)} }

func hidden(parts ...any) part { return part{isHidden: true, steps: steps(parts...)} }

// other is what the page 5 has in place of small; the others are steps that lead there, of a Watch of one core.
var (
	other  = mapping(5, api.Small, 10, 3)
	toNone = steps(unmap(5), ack(0))
	toSame = steps(unmap(5), ack(0), smap(small))
	toElse = steps(unmap(5), ack(0), smap(other))
	down   = times(5, walk(0)) // all the way to small, and its mark
)

type story struct {
	name   string
	parts  []part
	isTold bool // a fault, of the last step that is seen; no other one has any
}

// Of a Watch of one core: List is looked at behind each change, and behind nothing else.
var storiesOfLists = []story{
	{"nothing hidden", []part{seen(smap(small), toElse, protect(5, 0))}, false},
	{"a mapping more, an SMap", []part{hidden(smap(large)), seen(smap(small))}, true},
	{"a mapping more, an SUnmap", []part{seen(smap(small)), hidden(smap(large)), seen(unmap(5))}, true},
	{"a mapping more, an SProtect", []part{seen(smap(small)), hidden(smap(large)), seen(protect(5, 1))}, true},
	{"a mapping less", []part{seen(smap(small), smap(large)), hidden(toNone), seen(protect(9, 1))}, true},
	{"another frame", []part{seen(smap(small)), hidden(toElse), seen(smap(large))}, true},
	{"other rights", []part{seen(smap(small)), hidden(protect(5, 1), ack(0)), seen(smap(large))}, true},
	{"another size", []part{seen(smap(mapping(8, api.Small, 16, 7))), hidden(unmap(8), ack(0), smap(large)), seen(smap(small))}, true},
	{"the same again", []part{seen(smap(small)), hidden(toSame), seen(smap(large))}, false},
	{"what went, unmapped", []part{seen(smap(small)), hidden(toElse), seen(unmap(5))}, false},
	{"marks", []part{seen(smap(small)), hidden(write(0, 5), down), seen(smap(large))}, false},
	{"a change with a code", []part{hidden(smap(large)), seen(smap(large), unmap(5), protect(5, 1), smap(mapping(4, api.Large, 0, 0)))}, false},
	{"accesses, evictions, no steps", []part{seen(smap(small)), hidden(smap(large)), seen(read(0, 5), down, read(0, 5), evict(0), ack(0), api.Step{}, walk(7))}, false},
	{"an ack", []part{seen(smap(small), unmap(5)), hidden(ack(0), smap(large), unmap(9)), seen(ack(0))}, false},
}

// Of a Watch of one core: answers are looked at from the floor on that there was when the access began.
var storiesOfAnswers = []story{
	// With no time but one.
	{"at first, nothing", []part{seen(read(0, 5), walk(0))}, false},
	{"at first, something", []part{hidden(smap(small)), seen(read(0, 5), down)}, true},
	{"at first, something of another page", []part{hidden(smap(small)), seen(read(0, 645), walk(0))}, false},
	// An SMap is over at once: what was ahead of it is answered no more.
	{"mapped, as it is", []part{seen(smap(small), read(0, 5), down)}, false},
	{"mapped, nothing", []part{seen(smap(small)), hidden(toNone), seen(read(0, 5), walk(0))}, true},
	{"mapped, another frame", []part{seen(smap(small)), hidden(toElse), seen(read(0, 5), down)}, true},
	{"mapped, other rights", []part{seen(smap(small)), hidden(protect(5, 1), ack(0)), seen(read(0, 5), down)}, true},
	{"mapped, not allowed", []part{seen(smap(small)), hidden(protect(5, 2), ack(0)), seen(write(0, 5), times(4, walk(0)))}, true},
	{"mapped, began ahead, nothing", []part{seen(read(0, 5), smap(small)), hidden(toNone), seen(walk(0))}, false},
	{"mapped, began ahead, something", []part{seen(read(0, 5), smap(small), down)}, false},
	{"mapped, began ahead, another frame", []part{seen(read(0, 5), smap(small)), hidden(toElse), seen(down)}, true},
	// An SUnmap that is not over: what was ahead of it is still answered, but not what was ahead of that.
	{"unmap not over, as it was, kept", []part{seen(smap(small), read(0, 5), down, unmap(5), read(0, 5))}, false},
	{"unmap not over, as it was, by a walk", []part{seen(smap(small), unmap(5)), hidden(ack(0), smap(small)), seen(read(0, 5), down)}, false},
	{"unmap not over, as it is", []part{seen(smap(small), unmap(5), read(0, 5), walk(0))}, false},
	{"unmap not over, another frame", []part{seen(smap(small), unmap(5)), hidden(ack(0), smap(other)), seen(read(0, 5), down)}, true},
	{"unmap not over, as it was two times ahead", []part{seen(smap(small), toNone, smap(other), unmap(5)), hidden(ack(0), smap(small)), seen(read(0, 5), down)}, true},
	{"unmap not over, of another page, as it was ahead of it", []part{seen(smap(small), toNone, smap(large), unmap(9)), hidden(ack(0), smap(small)), seen(read(0, 5), down)}, true},
	// An SUnmap that is over: what was ahead of it is answered no more, but to those that began ahead.
	{"unmap over, as it is", []part{seen(smap(small), toNone, read(0, 5), walk(0))}, false},
	{"unmap over, as it was, by a walk", []part{seen(smap(small), toNone), hidden(smap(small)), seen(read(0, 5), down)}, true},
	{"unmap over, as it was, kept", []part{seen(smap(small), toNone), hidden(smap(small), read(0, 5), down), seen(read(0, 5))}, true},
	{"unmap over, began ahead of it, as it was", []part{seen(smap(small), read(0, 5), toNone), hidden(smap(small)), seen(down)}, false},
	{"unmap over, began ahead of its end, as it was", []part{seen(smap(small), unmap(5), read(0, 5), ack(0)), hidden(smap(small)), seen(down)}, false},
	{"unmap over, began ahead of it, another frame", []part{seen(smap(small), read(0, 5), toNone), hidden(smap(other)), seen(down)}, true},
	{"unmap over, began ahead, as it was ahead of the floor of then", []part{seen(smap(other), toNone, smap(small), read(0, 5), toNone), hidden(smap(other)), seen(down)}, true},
	{"an ack with a code makes nothing over", []part{seen(smap(small), unmap(5)), hidden(ack(0)), seen(ack(0)), hidden(smap(small)), seen(read(0, 5), down)}, false},
	// The same of an SProtect.
	{"protect not over, as it was", []part{seen(smap(small), protect(5, 1)), hidden(ack(0), protect(5, 3), ack(0)), seen(read(0, 5), down)}, false},
	{"protect not over, as it is", []part{seen(smap(small), protect(5, 1), read(0, 5), down)}, false},
	{"protect not over, other rights", []part{seen(smap(small), protect(5, 1)), hidden(ack(0), protect(5, 7), ack(0)), seen(read(0, 5), down)}, true},
	{"protect over, as it was", []part{seen(smap(small), protect(5, 1), ack(0)), hidden(protect(5, 3), ack(0)), seen(read(0, 5), down)}, true},
	{"protect over, as it is", []part{seen(smap(small), protect(5, 1), ack(0)), hidden(toNone, smap(mapping(5, api.Small, 9, 1))), seen(read(0, 5), down)}, false},
	{"protect over, began ahead of its end, as it was", []part{seen(smap(small), protect(5, 1), read(0, 5), ack(0)), hidden(protect(5, 3), ack(0)), seen(down)}, false},
	{"protect over, not allowed", []part{seen(smap(small), protect(5, 2), ack(0)), hidden(protect(5, 3), ack(0)), seen(write(0, 5), down)}, true},
	// An access that began ahead of several changes has all of them, and not those behind its end.
	{"several, the first", []part{seen(smap(small), read(0, 5), toElse, toNone), hidden(smap(small)), seen(down)}, false},
	{"several, one between", []part{seen(smap(small), read(0, 5), toElse, toNone), hidden(smap(other)), seen(down)}, false},
	{"several, none of them", []part{seen(smap(small), read(0, 5), toElse, toNone), hidden(smap(mapping(5, api.Small, 11, 3))), seen(down)}, true},
	{"the next access has a floor of its own", []part{seen(smap(small), read(0, 5), toNone, walk(0)), hidden(smap(small)), seen(read(0, 5), down)}, true},
	// What an access has is its own page's.
	{"of another page it may be anything", []part{seen(smap(small), smap(large), read(0, 9)), hidden(toElse), seen(times(4, walk(0)))}, false},
}

// mustTell makes a story's steps, and fails unless the last one that is seen has a fault, at its number, or none has any; it tells what that one came to.
func (x story) mustTell(t *testing.T, w *watch.Watch) api.Event {
	t.Helper()
	count := 0
	var e api.Event
	for n, p := range x.parts {
		for m, step := range p.steps {
			if p.isHidden {
				if e := w.Space.Do(step); e.Code != 0 {
					t.Fatalf("%s: behind its back, %v: %v", x.name, step, e)
				}
				continue
			}
			isLast := n == len(x.parts)-1 && m == len(p.steps)-1
			e = x.mustTellOf(t, w, step, count, x.isTold && isLast)
			count++
		}
	}
	return e
}

// mustTellOfAnEnd is mustTell of a story in which the last step that is seen ends an access.
func (x story) mustTellOfAnEnd(t *testing.T, w *watch.Watch) {
	t.Helper()
	if e := x.mustTell(t, w); !x.isTold && !e.Ended {
		t.Fatalf("%s: the last step, %v, ended nothing", x.name, e)
	}
}

// mustTellOf makes a step of a number, and fails unless it has a fault, or none; it tells what it came to.
func (x story) mustTellOf(t *testing.T, w *watch.Watch, step api.Step, number int, isTold bool) api.Event {
	t.Helper()
	e, fault := w.Do(step)
	switch {
	case !isTold && fault != (api.Fault{}):
		t.Fatalf("%s: the step %d, %v: the fault %v", x.name, number, step, fault)
	case isTold && (fault != (api.Fault{Code: api.ErrOther, At: number}) || e != api.Event{}):
		t.Fatalf("%s: the step %d, %v: %v, %v, want ErrOther alone, at %d", x.name, number, step, e, fault, number)
	}
	return e
}

func TestListIsLookedAt(t *testing.T) {
	for _, x := range storiesOfLists {
		x.mustTell(t, mustNew(t, 1, 8))
	}
}

func TestAnswersAreLookedAt(t *testing.T) {
	for _, x := range storiesOfAnswers {
		x.mustTellOfAnEnd(t, mustNew(t, 1, 8))
	}
}

// Steps that can't be are counted, too: the fault is at the number of the step among all of them.
func TestStepsAreCounted(t *testing.T) {
	for ahead := range 20 {
		w := mustNew(t, 1, 8)
		for n := range ahead {
			mustDo(t, w, []api.Step{{}, walk(0), ack(3)}[n%3], refused([]int{api.ErrKind, api.ErrIdle, api.ErrRange}[n%3]))
		}
		w.Space.Do(smap(large))
		story{name: "counted"}.mustTellOf(t, w, smap(small), ahead, true)
	}
}

// A fault that was told is told again, with its number, whatever is asked from then on, and be it right.
func TestFaultIsToldAgain(t *testing.T) {
	for _, all := range [][]story{storiesOfLists, storiesOfAnswers} {
		for _, x := range all {
			if !x.isTold {
				continue
			}
			w := mustNew(t, 1, 8)
			x.mustTell(t, w)
			_, first := w.Do(api.Step{})
			if first.Code != api.ErrOther {
				t.Fatalf("%s: told no more: %v", x.name, first)
			}
			for _, step := range steps(ack(0), unmap(5), ack(0), smap(other), read(0, 6), walk(0), evict(0), api.Step{Kind: 9}, smap(huge), unmap(-1)) {
				if e, fault := w.Do(step); fault != first || e != (api.Event{}) {
					t.Fatalf("%s: %v: %v, %v, want %v alone", x.name, step, e, fault, first)
				}
			}
			// A Watch beside it has no part in that.
			mustMap(t, mustNew(t, 1, 8), small)
		}
	}
}

// Each core's access has the floor of its own beginning, in whatever order they end.
func TestEachCoreHasItsFloor(t *testing.T) {
	for _, x := range []story{
		{"who began ahead may", []part{seen(smap(small), read(0, 5), unmap(5), ack(0), ack(1), read(1, 5)), hidden(smap(small)), seen(down)}, false},
		{"who began behind may not", []part{seen(smap(small), read(0, 5), unmap(5), ack(0), ack(1), read(1, 5)), hidden(smap(small)), seen(down, times(4, walk(1)))}, true},
		{"who began while it was not over may", []part{seen(smap(small), unmap(5), ack(0), read(1, 5), ack(1), read(0, 5)), hidden(smap(small)), seen(times(5, walk(1)))}, false},
		{"while one core has not looked after it, it is not over", []part{seen(smap(small), unmap(5), ack(1)), hidden(ack(0), smap(small)), seen(read(1, 5), times(5, walk(1)))}, false},
		{"an end of the one is none of the other", []part{seen(smap(small), read(0, 5), read(1, 5), down, unmap(5), ack(0), ack(1)), hidden(smap(small)), seen(times(5, walk(1)))}, false},
		{"a beginning of the one is none of the other", []part{seen(smap(small), read(1, 5), unmap(5), ack(0), ack(1), read(0, 645), read(0, 5), walk(0)), hidden(smap(small)), seen(times(5, walk(1)))}, false},
		{"an access with ErrBusy begins nothing", []part{seen(smap(small), read(1, 5), unmap(5), ack(0), ack(1), read(1, 645), read(1, 5)), hidden(smap(small)), seen(times(5, walk(1)))}, false},
		{"what the one may end with the other may not", []part{seen(smap(small), smap(large), read(0, 5), read(1, 9)), hidden(unmap(9), ack(0), ack(1)), seen(down, times(3, walk(1)))}, true},
	} {
		x.mustTellOfAnEnd(t, mustNew(t, 2, 8))
	}
}
