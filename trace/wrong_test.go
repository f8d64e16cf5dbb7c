package trace_test

import (
	"slices"
	"testing"

	"wayleave/api"
	"wayleave/trace"
)

// wrong is a step that can't be, in whatever scene, and its code; of a change, if no other one is begun that is not over.
type wrong struct {
	step api.Step
	code int
}

// noCoresOf tells numbers of no core, where there are that many.
func noCoresOf(count int) []int {
	return append([]int{count, count + 1, count + 4, 64, 256, 1 << 16, 1 << 31}, farOff...)
}

// wrongKinds tells steps of no kind, whatever else is said in them.
func wrongKinds(cores int) []wrong {
	var all []wrong
	for _, kind := range append([]int{0, 8, 9, 16, 256 + api.SMap, 256 + api.SAck}, farOff...) {
		for _, core := range []int{0, cores - 1, cores, -1} {
			all = append(all, wrong{api.Step{Kind: kind, Core: core, M: small, A: api.Access{Page: 5}}, api.ErrKind}, wrong{api.Step{Kind: kind, Core: core, M: mapping(-1, -1, -1, -1), A: api.Access{Page: -1, Kind: -1}}, api.ErrKind})
		}
	}
	return all
}

// wrongSteps tells steps of cores that are none, and accesses that are none.
func wrongSteps(cores int) []wrong {
	var all []wrong
	for _, core := range noCoresOf(cores) {
		for _, x := range steps(read(core, 5), begin(core, api.Access{Page: -1}), begin(core, api.Access{Kind: 3}), walk(core), ack(core), evict(core)) {
			all = append(all, wrong{x, api.ErrRange})
		}
	}
	for _, n := range append([]int{3, 4, 8}, farOff...) {
		all = append(all, wrong{begin(0, api.Access{Page: 5, Kind: n}), api.ErrKind}, wrong{begin(cores-1, api.Access{Page: -1, Kind: n, User: true}), api.ErrKind})
	}
	for _, p := range farOff {
		for kind := range 3 {
			all = append(all, wrong{begin(0, api.Access{Page: p, Kind: kind}), api.ErrRange}, wrong{begin(cores-1, api.Access{Page: p, Kind: kind, User: true}), api.ErrRange})
		}
	}
	return all
}

// wrongChanges tells changes of pages, sizes, frames and rights that are none.
func wrongChanges() []wrong {
	var all []wrong
	for _, n := range append([]int{3, 4, 8}, farOff...) {
		all = append(all, wrong{smap(mapping(512, n, 64, 1)), api.ErrKind}, wrong{smap(mapping(n, n, n, n)), api.ErrKind})
	}
	for _, n := range farOff {
		for size := range 3 {
			all = append(all, wrong{smap(mapping(n, size, 64, 1)), api.ErrRange}, wrong{smap(mapping(512, size, 64, n)), api.ErrRange})
			if n < 0 || n >= api.MaxData {
				all = append(all, wrong{smap(mapping(512, size, n, 1)), api.ErrRange})
			}
		}
		all = append(all, wrong{unmap(n), api.ErrRange}, wrong{protect(n, 1), api.ErrRange}, wrong{protect(5, n), api.ErrRange})
	}
	for _, n := range []int{1, 4, 7, 9, 65} {
		all = append(all, wrong{smap(mapping(n, api.Large, 64, 1)), api.ErrAlign}, wrong{smap(mapping(64, api.Large, n, 1)), api.ErrAlign}, wrong{smap(mapping(n, api.Huge, 64, 1)), api.ErrAlign}, wrong{smap(mapping(64, api.Huge, n, 1)), api.ErrAlign})
	}
	return append(all, wrong{unmap(last), api.ErrNone}, wrong{protect(last, 1), api.ErrNone})
}

// A script with steps that can't be, at whatever place, tells their codes there, and no fault; what the others come to is as if they were not there.
func TestRunOfWrongSteps(t *testing.T) {
	for _, x := range scenes() {
		y := x.reach(t)
		isBusy, count := y.w.Busy(), len(x.steps)
		for _, step := range more {
			y.do(t, step)
		}
		changes := wrongChanges()
		if isBusy {
			for i := range changes {
				changes[i].code = api.ErrBusy
			}
		}
		// A script has no more steps than may be, so there is one of each sort of wrong steps.
		for _, sort := range [][]wrong{wrongKinds(x.cores), wrongSteps(x.cores), changes} {
			var between []api.Step
			var codes []api.Event
			for _, z := range sort {
				between, codes = append(between, z.step), append(codes, refused(z.code))
			}
			mustRun(t, scene{x.cores, x.n, steps(y.script[:count], between, y.script[count:])}, events(y.came[:count], codes, y.came[count:]))
		}
	}
}

// Steps that can't be leave a Watch as it is, so Calm comes to what it would come to without them.
func TestCalmBehindWrongSteps(t *testing.T) {
	for _, x := range scenes() {
		y, z := x.reach(t), x.reach(t)
		for _, w := range slices.Concat(wrongKinds(x.cores), wrongSteps(x.cores), wrongChanges()) {
			if e := y.do(t, w.step); e.Code == 0 {
				t.Fatalf("Do(%v): %v", w.step, e)
			}
		}
		if one, two := y.calm(t), z.calm(t); !slices.Equal(one, two) {
			t.Fatalf("Calm:\n%v, want\n%v", one, two)
		}
		mustLookLike(t, y.w, look(z.w))
		y.mustAnswer(t, somePages)
	}
}

// Changes look at no Core and at no A, steps of cores at no M and, but SAccess, at no A, whatever stands there.
func TestStepsLookAtTheirOwnAlone(t *testing.T) {
	for _, n := range farOff {
		m, a := mapping(n, n, n, n), api.Access{Page: n, Kind: n, User: true}
		mustRun(t, scene{1, 4, steps(
			api.Step{Kind: api.SMap, Core: n, M: small, A: a},
			api.Step{Kind: api.SAccess, M: m, A: api.Access{Page: 5}},
			times(5, api.Step{Kind: api.SWalk, M: m, A: a}),
			api.Step{Kind: api.SProtect, Core: n, M: mapping(5, n, n, 1), A: a},
			api.Step{Kind: api.SEvict, M: m, A: a},
			api.Step{Kind: api.SAck, M: m, A: a},
			api.Step{Kind: api.SUnmap, Core: n, M: mapping(5, n, n, n), A: a},
		)}, events(back, times(5, going), done(9, 3), going, going, back, going))
	}
}

// A Watch never tells a fault of itself. So that it can be seen that Calm tells it, these accesses begin behind the Watch's back, in the Space that it is, and it does not know of them when they end.
func TestFaultOfTheWatch(t *testing.T) {
	for _, x := range []struct {
		name   string
		ahead  []api.Step
		hidden []api.Step
		at     int // the number of the step that ends the first one of those accesses, all counted
	}{
		{"an access", steps(smap(small)), steps(read(0, 5)), 5},
		{"the last core's", steps(smap(small)), steps(read(2, 5)), 5},
		{"two accesses", steps(smap(small)), steps(read(1, 5), read(0, last)), 1},
		{"behind what is looked after", steps(smap(small), protect(5, 1)), steps(read(1, last)), 5},
		{"behind another core's", steps(smap(small), read(0, 5)), steps(read(1, 5)), 10},
	} {
		t.Run(x.name, func(t *testing.T) {
			w := mustNew(t, 3, 4)
			for _, step := range x.ahead {
				mustDo(t, w, step)
			}
			for _, step := range x.hidden {
				w.Space.Do(step)
			}
			want := api.Fault{Code: api.ErrOther, At: x.at}
			mustTellFault(t, x.name, want, func() ([]api.Event, api.Fault) { return trace.Calm(w) })
			// From then on it is told again, as soon as there is a step.
			w.Do(read(2, 6))
			mustTellFault(t, "another access", want, func() ([]api.Event, api.Fault) { return trace.Calm(w) })
		})
	}
}

func mustTellFault(t *testing.T, what string, want api.Fault, ask func() ([]api.Event, api.Fault)) {
	t.Helper()
	if came, fault := ask(); len(came) != 0 || fault != want {
		t.Fatalf("%s: %v, %v, want nothing and %v", what, came, fault, want)
	}
}
