package space_test

import (
	"testing"

	"wayleave/api"
)

// run is a long run's Space: what its steps are chosen from.
type run struct {
	cores, n int
	pages    int // accesses and changes are of those below
	sizes    int // of mappings, those below
	patience int // one of so many steps looks after a change
	wrongIn  int // one of so many steps can't be
}

var runs = []run{
	{1, 4, 8, 1, 4, 100}, {2, 5, 64, 2, 6, 100}, {4, 6, 80, 3, 8, 30}, {3, 12, 600, 3, 40, 100}, {4, 128, api.Pages, 3, 10, 50}, {2, 40, api.Pages, 2, 100, 1000}, {4, 20, 128, 1, 12, 200}, {4, 1, api.Pages, 3, 5, 50},
}

// choice tells which step is next.
func (r run) choice(m *model, below func(int) int) api.Step {
	core := below(r.cores)
	c := m.cores[core]
	size := below(r.sizes)
	x := api.Map{Page: below(r.pages), Size: size, Frame: spans[size] * below(1000), Rights: below(8) | below(8)}
	if below(8) > 0 {
		x.Page -= x.Page % spans[size]
	}
	switch {
	case below(r.wrongIn) == 0:
		return r.wrong(x, below)
	case m.busy() && below(r.patience) == 0:
		return ack(core)
	case below(24) == 0:
		return smap(x)
	case below(40) == 0:
		return []api.Step{unmap(x.Page), protect(x.Page, x.Rights)}[below(2)]
	case len(m.leaves) > 0 && below(30) == 0:
		had := m.leaves[below(len(m.leaves))].m
		return []api.Step{unmap(had.Page), protect(had.Page+below(spans[had.Size]), x.Rights)}[below(2)]
	case below(60) == 0:
		return evict(core)
	case c.on || below(20) == 0:
		return walk(core)
	case len(m.leaves) > 0 && below(4) > 0:
		had := m.leaves[below(len(m.leaves))].m
		x.Page = had.Page + below(spans[had.Size])
	}
	return begin(core, api.Access{Page: x.Page, Kind: below(3), User: below(4) == 0})
}

// wrong tells a step of which something may be far off.
func (r run) wrong(m api.Map, below func(int) int) api.Step {
	x := api.Step{Kind: below(10) - 1, Core: below(r.cores+2) - 1, M: m, A: api.Access{Page: m.Page, Kind: below(5) - 1}}
	n := farOff[below(len(farOff))]
	at := []*int{&x.Kind, &x.Core, &x.M.Page, &x.M.Size, &x.M.Frame, &x.M.Rights, &x.A.Page, &x.A.Kind}
	*at[below(len(at))] = n
	return x
}

// TestLongRuns goes on for long with Spaces of some cores, by a fixed rule; lists of before stay as they were, and at the end all comes to rest.
func TestLongRuns(t *testing.T) {
	seen := map[outcome]int{}
	for seed, r := range runs {
		state := uint64(seed + 1)
		below := func(end int) int {
			state = state*6364136223846793005 + 1442695040888963407
			return int(state>>33) % end
		}
		x := newPair(t, r.cores, r.n)
		for range 60 {
			before, was := look(x.w.s), x.m.clone().look()
			for range 60 {
				step := r.choice(x.m, below)
				seen[outcomeOf(step.Kind, x.do(t, step))]++
			}
			if !before.is(was) {
				t.Fatalf("lists of before are %v, want %v", before, was)
			}
			mustFindAll(t, x)
		}
		x.w.mustComeToRest(t)
	}
	mustHave(t, seen, map[int][]api.Event{
		api.SMap:     {back, refused(api.ErrBusy), refused(api.ErrKind), refused(api.ErrRange), refused(api.ErrAlign), refused(api.ErrThere), refused(api.ErrFull)},
		api.SUnmap:   {going, refused(api.ErrBusy), refused(api.ErrRange), refused(api.ErrNone)},
		api.SProtect: {going, refused(api.ErrBusy), refused(api.ErrRange), refused(api.ErrNone)},
		api.SAccess:  {going, done(0, 0), notAllowed, refused(api.ErrRange), refused(api.ErrKind), refused(api.ErrBusy)},
		api.SWalk:    {going, done(0, 0), notMapped, notAllowed, refused(api.ErrRange), refused(api.ErrIdle)},
		api.SAck:     {going, back, refused(api.ErrRange), refused(api.ErrIdle)},
		api.SEvict:   {going, refused(api.ErrRange), refused(api.ErrIdle)},
		0:            {refused(api.ErrKind)},
		8:            {refused(api.ErrKind)},
	})
}

// mustFindAll fails unless each page has what it is to have.
func mustFindAll(t *testing.T, x pair) {
	t.Helper()
	for p := range api.Pages {
		if got, want := find(x.w.s, p), x.m.findOf(p); got != want {
			t.Fatalf("Find(%d): %v, want %v", p, got, want)
		}
	}
}

// TestEveryOrder goes through all orders of two steps out of many, from every scene on; then all comes to rest.
func TestEveryOrder(t *testing.T) {
	steps := []api.Step{
		smap(mapping(6, api.Small, 7, 1)), smap(mapping(128, api.Large, 8, 7)), smap(mapping(8, api.Huge, 8, 7)), unmap(5), unmap(13), protect(140, 7), protect(5, 8),
		write(0, 5), read(1, 13), walk(0), walk(1), ack(0), ack(1), ack(2), evict(0), {},
	}
	for _, x := range scenes() {
		for _, first := range steps {
			for _, second := range steps {
				y := x.begin(t)
				y.do(t, first)
				y.do(t, second)
				y.w.mustComeToRest(t)
			}
		}
	}
}

// begin tells a pair that has this scene behind it.
func (x scene) begin(t *testing.T) pair {
	t.Helper()
	y := newPair(t, x.cores, x.n)
	for _, step := range x.steps {
		if got, want := y.w.do(t, step), y.m.do(step); got != want {
			t.Fatalf("Do(%v): %v, want %v", step, got, want)
		}
	}
	return y
}
