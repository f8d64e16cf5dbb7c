package space_test

import (
	"maps"
	"slices"
	"testing"

	"wayleave/api"
	"wayleave/space"
)

// witness is a Space, and what was seen of it that has to hold: it knows neither tables nor words.
type witness struct {
	s       *space.Space
	n       int
	written map[api.Map]bool // which mappings, their rights aside, were written since they were mapped
}

func newWitness(t *testing.T, cores, n int) *witness {
	t.Helper()
	return &witness{mustNew(t, cores, n), n, map[api.Map]bool{}}
}

func noRightsOf(m api.Map) api.Map {
	m.Rights = 0
	return m
}

// do makes a step, and fails unless what follows from the chapter holds: no code is of a table that is free or a word that is none, what was written is dirty, and each frame is free, or a table of the root's, or goes.
func (w *witness) do(t *testing.T, x api.Step) api.Event {
	t.Helper()
	ahead, _, _ := w.s.Find(x.M.Page)
	a := x.A
	if on, isOn := w.s.On(x.Core); x.Kind == api.SWalk && isOn {
		a = on
	}
	e := w.s.Do(x)
	w.mustBeAnEvent(t, x, e)
	if x.Kind == api.SUnmap && e.Code == 0 {
		delete(w.written, noRightsOf(ahead))
	}
	if e.Ended && e.Answer.End == api.Done && a.Kind == api.Write {
		w.note(t, a.Page)
	}
	for m := range w.written {
		now, entry, code := w.s.Find(m.Page)
		if code != 0 || noRightsOf(now) != m || !entry.Dirty || !entry.Used {
			t.Fatalf("behind %v: %v was written, and Find tells %v, %v, %d", x, m, now, entry, code)
		}
	}
	w.mustCountFrames(t)
	return e
}

// note notes that a page was written: it is mapped, or an unmap of it is not over.
func (w *witness) note(t *testing.T, p int) {
	t.Helper()
	m, _, code := w.s.Find(p)
	if code == 0 {
		w.written[noRightsOf(m)] = true
	} else if !w.s.Busy() {
		t.Fatalf("the page %d was written, and is not mapped, and no change is begun", p)
	}
}

// mustBeAnEvent fails unless an event is such as may be told of the kind of its step.
func (w *witness) mustBeAnEvent(t *testing.T, x api.Step, e api.Event) {
	t.Helper()
	codes := map[int][]int{
		api.SMap:     {0, api.ErrBusy, api.ErrKind, api.ErrRange, api.ErrAlign, api.ErrThere, api.ErrFull},
		api.SUnmap:   {0, api.ErrBusy, api.ErrRange, api.ErrNone},
		api.SProtect: {0, api.ErrBusy, api.ErrRange, api.ErrNone},
		api.SAccess:  {0, api.ErrRange, api.ErrKind, api.ErrBusy},
		api.SWalk:    {0, api.ErrRange, api.ErrIdle},
		api.SAck:     {0, api.ErrRange, api.ErrIdle},
		api.SEvict:   {0, api.ErrRange, api.ErrIdle},
	}[x.Kind]
	if codes == nil {
		codes = []int{api.ErrKind}
	}
	mayEnd := x.Kind == api.SAccess || x.Kind == api.SWalk
	mayBeBack := x.Kind == api.SMap || x.Kind == api.SAck
	switch {
	case !slices.Contains(codes, e.Code):
	case e.Code != 0 && e != refused(e.Code):
	case !e.Ended && e.Answer != (api.Answer{}) || e.Ended && !mayEnd:
	case e.Back && (!mayBeBack || w.s.Busy()) || x.Kind == api.SMap && e.Code == 0 && !e.Back:
	default:
		return
	}
	t.Fatalf("Do(%v): %v", x, e)
}

// mustCountFrames fails unless each frame is free, a table of the root's, or goes when the change is over.
func (w *witness) mustCountFrames(t *testing.T) {
	t.Helper()
	tables := w.s.Tables()
	each := slices.Compact(slices.Sorted(slices.Values(tables)))
	if len(each) != len(tables) || tables[0] != 0 || each[0] < 0 || each[len(each)-1] >= w.n {
		t.Fatalf("Tables: %v, of %d frames", tables, w.n)
	}
	if len(tables)+w.s.Free()+w.s.Gone() != w.n {
		t.Fatalf("%d frames: %d tables, %d free, %d that go", w.n, len(tables), w.s.Free(), w.s.Gone())
	}
	if w.s.Gone() > 0 && !w.s.Busy() {
		t.Fatalf("%d tables go, and no change is begun", w.s.Gone())
	}
}

// mustComeToRest looks after what was begun, unmaps all, and fails unless all frames but the root's are free then.
func (w *witness) mustComeToRest(t *testing.T) {
	t.Helper()
	for core := range w.s.Cores() {
		w.do(t, ack(core))
	}
	for _, m := range w.s.List() {
		if e := w.do(t, unmap(m.Page)); e != going {
			t.Fatalf("Do(%v): %v", unmap(m.Page), e)
		}
		mustAck(t, w.s, upTo(w.s.Cores())...)
	}
	mustCount(t, w.s, counts{free: w.n - 1})
	mustHaveTables(t, w.s, 0)
	mustList(t, w.s)
}

// pair is a Space, and what it is to be.
type pair struct {
	w *witness
	m *model
}

func newPair(t *testing.T, cores, n int) pair {
	t.Helper()
	return pair{newWitness(t, cores, n), newModel(cores, n)}
}

func (x pair) do(t *testing.T, step api.Step) api.Event {
	t.Helper()
	want := x.m.do(step)
	if got := x.w.do(t, step); got != want {
		t.Fatalf("Do(%v): %v, want %v", step, got, want)
	}
	mustLookLike(t, x.w.s, x.m.look())
	return want
}

// outcome is what a step of a kind came to, in short.
type outcome struct {
	kind, code  int
	ended, back bool
	end         int
}

func outcomeOf(kind int, e api.Event) outcome {
	return outcome{kind, e.Code, e.Ended, e.Back, e.Answer.End}
}

// mustHave fails unless steps of these kinds came to all that they may come to.
func mustHave(t *testing.T, seen map[outcome]int, want map[int][]api.Event) {
	t.Helper()
	for kind, events := range want {
		for _, e := range events {
			if seen[outcomeOf(kind, e)] == 0 {
				t.Errorf("a step of the kind %d never came to %v; %v", kind, e, seen)
			}
		}
	}
}

// node is a state that was met, and the step that led to it from another one; what was written on the way there.
type node struct {
	m       *model
	from    int
	step    api.Step
	written map[api.Map]bool
}

// TestEveryState goes through all states that a small Space can have, however the steps of its cores and its changes fall, and makes each step in each of them.
func TestEveryState(t *testing.T) {
	for _, x := range []struct {
		cores, n int
		steps    []api.Step
	}{
		// One mapping that comes, goes and has other rights; two cores that write and read it.
		{2, 4, []api.Step{smap(mapping(5, 0, 9, 1)), unmap(5), protect(5, 0), protect(5, 1), write(0, 5), read(0, 5), write(1, 5), read(1, 5), walk(0), walk(1), ack(0), ack(1), evict(0), evict(1)}},
		// Two that share some of their tables, of two sizes; one core.
		{1, 5, []api.Step{smap(mapping(5, 0, 9, 1)), smap(mapping(8, 1, 16, 1)), smap(mapping(8, 0, 7, 1)), unmap(5), unmap(8), write(0, 5), write(0, 8), walk(0), ack(0), evict(0)}},
		// Frames that are a table of one way now and of another one later; three cores, of which the last one does nothing but look after it.
		{3, 4, []api.Step{smap(mapping(5, 0, 9, 1)), smap(mapping(last, 0, 7, 1)), unmap(5), unmap(last), read(0, 5), write(1, last), walk(0), walk(1), ack(0), ack(1), ack(2)}},
	} {
		seen := mustExplore(t, x.cores, x.n, x.steps)
		mustHave(t, seen, map[int][]api.Event{
			api.SMap:    {back, refused(api.ErrBusy), refused(api.ErrThere)},
			api.SUnmap:  {going, refused(api.ErrBusy), refused(api.ErrNone)},
			api.SAccess: {going, done(0, 0), refused(api.ErrBusy)},
			api.SWalk:   {going, done(0, 0), notMapped, refused(api.ErrIdle)},
			api.SAck:    {back, refused(api.ErrIdle)},
		})
	}
}

// mustExplore goes through all states that these steps lead to, and tells what they came to.
func mustExplore(t *testing.T, cores, n int, steps []api.Step) map[outcome]int {
	t.Helper()
	seen := map[outcome]int{}
	nodes := []node{{newModel(cores, n), -1, api.Step{}, map[api.Map]bool{}}}
	known := map[string]bool{nodes[0].m.key(): true}
	for at := 0; at < len(nodes); at++ {
		var s *witness
		for _, x := range steps {
			if s == nil {
				s = reached(t, nodes, at, cores, n)
			}
			next := nodes[at].m.clone()
			want := next.do(x)
			seen[outcomeOf(x.Kind, want)]++
			if got := s.do(t, x); got != want {
				t.Fatalf("behind %v Do(%v): %v, want %v", path(nodes, at), x, got, want)
			}
			mustLookLike(t, s.s, next.look())
			if want.Code != 0 {
				// Nothing has changed: the same Space may be asked for the next one.
				continue
			}
			if key := next.key(); !known[key] {
				known[key] = true
				nodes = append(nodes, node{next, at, x, s.written})
			}
			s = nil
		}
	}
	t.Logf("%d states", len(nodes))
	return seen
}

// path tells the steps that led to a state, from the beginning on.
func path(nodes []node, at int) []api.Step {
	var steps []api.Step
	for ; nodes[at].from >= 0; at = nodes[at].from {
		steps = append(steps, nodes[at].step)
	}
	slices.Reverse(steps)
	return steps
}

func reached(t *testing.T, nodes []node, at, cores, n int) *witness {
	t.Helper()
	w := newWitness(t, cores, n)
	for _, x := range path(nodes, at) {
		w.s.Do(x)
	}
	w.written = maps.Clone(nodes[at].written)
	return w
}
