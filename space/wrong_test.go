package space_test

import (
	"slices"
	"testing"

	"wayleave/api"
)

// wrongSteps tells steps that can't be, in whatever scene: each with its code.
func wrongSteps(cores int) map[int][]api.Step {
	wrong := map[int][]api.Step{}
	for _, kind := range noKinds {
		// Of no kind is told ahead of no core, and of no page.
		for _, core := range append(upTo(cores), noCoresOf(cores)...) {
			wrong[api.ErrKind] = append(wrong[api.ErrKind], api.Step{Kind: kind, Core: core, M: small, A: api.Access{Page: 5}}, api.Step{Kind: kind, Core: core, M: mapping(-1, -1, -1, -1), A: api.Access{Page: -1, Kind: -1}})
		}
	}
	for _, core := range noCoresOf(cores) {
		// No core is told ahead of no access, and of nothing that it could do.
		wrong[api.ErrRange] = append(wrong[api.ErrRange], read(core, 5), begin(core, api.Access{Page: -1}), begin(core, api.Access{Kind: 3}), walk(core), ack(core), evict(core))
	}
	return wrong
}

// Steps of no kind, and of no core, change nothing in whatever scene they are asked for.
func TestWrongSteps(t *testing.T) {
	for _, x := range scenes() {
		s := x.reach(t)
		was := look(s)
		for code, wrong := range wrongSteps(x.cores) {
			for _, step := range wrong {
				mustDo(t, s, step, refused(code))
			}
			mustLookLike(t, s, was)
		}
		// What was on its way, and what was begun, goes on as if nothing had been asked.
		alone := x.reach(t)
		for _, step := range slices.Concat(times(6, walk(0)), times(6, walk(x.cores-1)), []api.Step{ack(0), ack(x.cores - 1), evict(0), read(0, 9)}) {
			mustDo(t, s, step, alone.Do(step))
			mustLookLike(t, s, look(alone))
		}
	}
}

// Steps of cores look neither at M nor, but SAccess, at A.
func TestStepsOfCoresLookAtNoMapping(t *testing.T) {
	for _, n := range farOff {
		m, a := mapping(n, n, n, n), api.Access{Page: n, Kind: n, User: true}
		s := mustNew(t, 1, 4)
		mustMap(t, s, small)
		mustGo(t, s, api.Step{Kind: api.SAccess, M: m, A: api.Access{Page: 5}})
		for range 4 {
			mustGo(t, s, api.Step{Kind: api.SWalk, M: m, A: a})
		}
		mustDo(t, s, api.Step{Kind: api.SWalk, M: m, A: a}, done(9, 3))
		mustGo(t, s, protect(5, 1))
		mustDo(t, s, api.Step{Kind: api.SAck, M: m, A: a}, back)
		mustHaveKept(t, s, 0)
		mustKeep(t, s, 0, 5, false)
		mustGo(t, s, api.Step{Kind: api.SEvict, M: m, A: a})
		mustHaveKept(t, s, 0)
	}
}
