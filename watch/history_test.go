package watch_test

import (
	"cmp"
	"slices"
	"testing"

	"wayleave/api"
	"wayleave/space"
	"wayleave/watch"
)

// history says what the chapter says of times, by lists of mappings alone: all of them, from the first one on.
type history struct {
	times [][]api.Map
	floor int
	waits []int // the cores that have not looked after the last change yet
	begun []int // of each core: the floor when its access began
	asked []api.Access
}

func newHistory(cores int) *history {
	return &history{times: [][]api.Map{nil}, begun: make([]int, cores), asked: make([]api.Access, cores)}
}

func (h *history) now() int { return len(h.times) - 1 }

// add makes one time more: the last one, but for the mapping that has the page, for which others stand.
func (h *history) add(p int, others ...api.Map) {
	next := slices.DeleteFunc(slices.Clone(h.times[h.now()]), func(m api.Map) bool { return has(m, p) })
	next = append(next, others...)
	slices.SortFunc(next, func(a, b api.Map) int { return cmp.Compare(a.Page, b.Page) })
	h.times = append(h.times, next)
}

// mappingOf tells what is mapped at a page at a time; false: nothing.
func (h *history) mappingOf(p, time int) (api.Map, bool) {
	for _, m := range h.times[time] {
		if has(m, p) {
			return m, true
		}
	}
	return api.Map{}, false
}

// answer tells how an access ends by what is mapped at a time.
func (h *history) answer(a api.Access, time int) api.Answer {
	m, found := h.mappingOf(a.Page, time)
	switch {
	case !found:
		return notMapped.Answer
	case !lets(m.Rights, a):
		return notAllowed.Answer
	}
	return done(m.Frame+a.Page-m.Page, m.Rights).Answer
}

// follow takes in a step that has no code.
func (h *history) follow(x api.Step) {
	switch x.Kind {
	case api.SMap:
		h.add(x.M.Page, x.M)
		h.floor = h.now()
	case api.SUnmap:
		h.add(x.M.Page)
		h.waits = upTo(len(h.begun))
	case api.SProtect:
		m, _ := h.mappingOf(x.M.Page, h.now())
		m.Rights = x.M.Rights
		h.add(x.M.Page, m)
		h.waits = upTo(len(h.begun))
	case api.SAccess:
		h.begun[x.Core], h.asked[x.Core] = h.floor, x.A
	case api.SAck:
		h.waits = slices.DeleteFunc(h.waits, func(core int) bool { return core == x.Core })
		if len(h.waits) == 0 {
			h.floor = h.now()
		}
	}
}

// age tells how many times ahead of the last one an answer of a core's access was right last; -1: at no time that was not over when it began.
func (h *history) age(core int, a api.Answer) int {
	for time := h.now(); time >= h.begun[core]; time-- {
		if h.answer(h.asked[core], time) == a {
			return h.now() - time
		}
	}
	return -1
}

// trio is a Watch, a Space of which the same is asked, and what was mapped at all times.
type trio struct {
	w *watch.Watch
	s *space.Space
	h *history
	// ages counts the answers of accesses, by how many times ahead of the last one they were right last.
	ages map[int]int
}

func newTrio(t *testing.T, cores, n int) *trio {
	t.Helper()
	return &trio{mustNew(t, cores, n), mustNewSpace(t, cores, n), newHistory(cores), map[int]int{}}
}

// do makes a step, and fails unless it comes to what the Space's step comes to, without a fault, and to what may be.
func (x *trio) do(t *testing.T, step api.Step) api.Event {
	t.Helper()
	want := x.s.Do(step)
	mustDo(t, x.w, step, want)
	if want.Code != 0 {
		mustHaveTimes(t, x.w, x.h.now())
		return want
	}
	x.h.follow(step)
	mustHaveTimes(t, x.w, x.h.now())
	if list := x.w.List(); !slices.Equal(list, x.h.times[x.h.now()]) {
		t.Fatalf("behind %v List: %v, want %v", step, list, x.h.times[x.h.now()])
	}
	if want.Ended {
		age := x.h.age(step.Core, want.Answer)
		if age < 0 {
			t.Fatalf("%v, which began at the floor %d of %v, ended with %v", x.h.asked[step.Core], x.h.begun[step.Core], x.h.times, want.Answer)
		}
		x.ages[age]++
	}
	return want
}

// mustBeAlike fails unless all that is told of the Watch is what the Space tells.
func (x *trio) mustBeAlike(t *testing.T) {
	t.Helper()
	mustLookLike(t, x.w, look(x.s))
}
