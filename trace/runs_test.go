package trace_test

import (
	"testing"

	"wayleave/api"
)

// run is a long script: what its steps are chosen from.
type run struct {
	cores, n int
	pages    int // accesses and changes are of those below
	sizes    int // of mappings, those below
	patience int // one of so many steps looks after a change
	wrongIn  int // one of so many steps may be one that can't be
	calmIn   int // one of so many steps is a Calm instead
}

var runs = []run{
	{1, 1, 64, 3, 4, 20, 50}, {1, 4, 8, 1, 4, 100, 20}, {2, 5, 64, 2, 6, 100, 30}, {4, 6, 80, 3, 8, 30, 10}, {3, 12, 600, 3, 40, 100, 60}, {4, 128, api.Pages, 3, 10, 50, 200}, {2, 40, api.Pages, 2, 100, 1000, 40}, {4, 20, 128, 1, 400, 200, 25},
}

// choice tells which step is next.
func (r run) choice(x *twins, below func(int) int) api.Step {
	core, size := below(r.cores), below(r.sizes)
	m := api.Map{Page: below(r.pages), Size: size, Frame: spans[size] * below(1000), Rights: below(8) | below(8)}
	m.Page -= m.Page % spans[size]
	if len(x.mapped) > 0 && below(4) > 0 {
		had := x.mapped[below(len(x.mapped))]
		m.Page = had.Page + below(spans[had.Size])
	}
	_, on := x.w.On(core)
	switch {
	case below(r.wrongIn) == 0:
		return wrongStep(r, m, below)
	case x.w.Busy() && below(r.patience) == 0:
		return ack(core)
	case below(16) == 0:
		return smap(m)
	case below(24) == 0:
		return steps(unmap(m.Page), protect(m.Page, m.Rights))[below(2)]
	case below(60) == 0:
		return evict(core)
	case on || below(20) == 0:
		return walk(core)
	}
	return begin(core, api.Access{Page: m.Page, Kind: below(3), User: below(4) == 0})
}

// wrongStep tells a step of which something may be far off.
func wrongStep(r run, m api.Map, below func(int) int) api.Step {
	x := api.Step{Kind: below(10) - 1, Core: below(r.cores+2) - 1, M: m, A: api.Access{Page: m.Page, Kind: below(5) - 1}}
	at := []*int{&x.Kind, &x.Core, &x.M.Page, &x.M.Size, &x.M.Frame, &x.M.Rights, &x.A.Page, &x.A.Kind}
	*at[below(len(at))] = farOff[below(len(farOff))]
	return x
}

// outcome is a kind of step, and what it came to, but for which frame and which rights.
type outcome struct {
	kind int
	e    api.Event
}

func outcomeOf(kind int, e api.Event) outcome {
	e.Answer.Frame, e.Answer.Rights = 0, 0
	return outcome{kind, e}
}

// Scripts as long as may be, by a fixed rule, with a Calm now and then: each Calm comes to rest, and Run of all steps, Calm's among them, comes to the same.
func TestLongScripts(t *testing.T) {
	seen := map[outcome]int{}
	calms := map[int]int{}
	for round := range 6 {
		for number, r := range runs {
			state := uint64(round*len(runs) + number + 1)
			below := func(end int) int {
				state = state*6364136223846793005 + 1442695040888963407
				return int(state>>33) % end
			}
			x := newTwins(t, r.cores, r.n)
			// A Calm may have so many steps: an SAck and six SWalks of each core.
			for len(x.script)+7*r.cores < api.MaxSteps {
				if below(r.calmIn) == 0 {
					calms[len(x.calm(t))]++
					continue
				}
				step := r.choice(x, below)
				seen[outcomeOf(step.Kind, x.do(t, step))]++
			}
			mustRun(t, scene{r.cores, r.n, x.script}, x.came)
			x.calm(t)
			mustRun(t, scene{r.cores, r.n, x.script}, x.came)
			x.mustAnswer(t, somePages)
		}
	}
	t.Logf("Calms by how many steps they had: %v", calms)
	mustHave(t, seen, map[int][]api.Event{
		api.SMap:     {back, refused(api.ErrBusy), refused(api.ErrKind), refused(api.ErrRange), refused(api.ErrAlign), refused(api.ErrThere), refused(api.ErrFull)},
		api.SUnmap:   {going, refused(api.ErrBusy), refused(api.ErrRange), refused(api.ErrNone)},
		api.SProtect: {going, refused(api.ErrBusy), refused(api.ErrRange), refused(api.ErrNone)},
		api.SAccess:  {going, done(0, 0), notAllowed, refused(api.ErrRange), refused(api.ErrKind), refused(api.ErrBusy)},
		api.SWalk:    {going, done(0, 0), notMapped, notAllowed, refused(api.ErrRange), refused(api.ErrIdle)},
		api.SAck:     {going, back, refused(api.ErrRange), refused(api.ErrIdle)},
		api.SEvict:   {going, refused(api.ErrRange), refused(api.ErrIdle)},
		0:            {refused(api.ErrKind)},
		8:            {refused(api.ErrKind)},
	})
}

// mustHave fails unless each kind of steps came to all of these.
func mustHave(t *testing.T, seen map[outcome]int, want map[int][]api.Event) {
	t.Helper()
	for kind, all := range want {
		for _, e := range all {
			if seen[outcomeOf(kind, e)] == 0 {
				t.Errorf("no step of the kind %d came to %v", kind, e)
			}
		}
	}
}

// From every scene on, behind every two steps out of many, in both orders, Calm comes to rest.
func TestTwoStepsFromEveryScene(t *testing.T) {
	all := steps(smap(mapping(6, api.Small, 7, 1)), smap(mapping(128, api.Large, 8, 7)), unmap(5), unmap(13), protect(140, 7), protect(5, 8),
		write(0, 5), read(1, 13), walk(0), walk(1), ack(0), ack(1), ack(2), evict(0), api.Step{})
	for _, x := range scenes() {
		for _, first := range all {
			for _, second := range all {
				y := x.reach(t)
				y.do(t, first)
				y.do(t, second)
				y.calm(t)
			}
		}
	}
}

// Behind Calm the next access of each page there is, at each core, is answered by what is mapped, in whatever scene it was called.
func TestEachPageBehindCalm(t *testing.T) {
	all := allPages()
	for _, x := range scenes() {
		y := x.reach(t)
		y.calm(t)
		y.mustAnswer(t, all)
		y.mustBeAtRest(t)
	}
}
