package watch_test

import (
	"testing"

	"wayleave/api"
	"wayleave/space"
	"wayleave/watch"
)

// wrongSteps tells steps that can't be, in whatever scene: each with its code.
func wrongSteps(cores int) map[int][]api.Step {
	wrong := map[int][]api.Step{}
	for _, kind := range append([]int{0, 8, 9, 16, 256 + api.SMap, 256 + api.SAck}, farOff...) {
		for _, core := range append(upTo(cores), noCoresOf(cores)...) {
			wrong[api.ErrKind] = append(wrong[api.ErrKind], api.Step{Kind: kind, Core: core, M: small, A: api.Access{Page: 5}}, api.Step{Kind: kind, Core: core, M: mapping(-1, -1, -1, -1), A: api.Access{Page: -1, Kind: -1}})
		}
	}
	for _, core := range noCoresOf(cores) {
		wrong[api.ErrRange] = append(wrong[api.ErrRange], read(core, 5), begin(core, api.Access{Page: -1}), begin(core, api.Access{Kind: 3}), walk(core), ack(core), evict(core))
	}
	for _, n := range append([]int{3, 4, 8}, farOff...) {
		wrong[api.ErrKind] = append(wrong[api.ErrKind], begin(0, api.Access{Page: 5, Kind: n}), begin(0, api.Access{Page: n, Kind: n, User: true}))
	}
	for _, p := range farOff {
		for _, a := range accesses(p) {
			wrong[api.ErrRange] = append(wrong[api.ErrRange], begin(cores-1, a))
		}
	}
	return wrong
}

// wrongChanges tells changes that can't be, in whatever scene: each with its code when no other one is begun that is not over.
func wrongChanges() map[int][]api.Step {
	wrong := map[int][]api.Step{}
	for _, n := range append([]int{3, 4, 8}, farOff...) {
		wrong[api.ErrKind] = append(wrong[api.ErrKind], smap(mapping(512, n, 64, 1)), smap(mapping(n, n, n, n)))
	}
	for _, n := range farOff {
		for size := range 3 {
			wrong[api.ErrRange] = append(wrong[api.ErrRange], smap(mapping(n, size, 64, 1)), smap(mapping(512, size, 64, n)))
			if n < 0 || n >= api.MaxData {
				wrong[api.ErrRange] = append(wrong[api.ErrRange], smap(mapping(512, size, n, 1)))
			}
		}
		wrong[api.ErrRange] = append(wrong[api.ErrRange], unmap(n), protect(n, 1), protect(5, n))
	}
	for _, n := range []int{1, 4, 7, 9, 65} {
		wrong[api.ErrAlign] = append(wrong[api.ErrAlign], smap(mapping(n, api.Large, 64, 1)), smap(mapping(64, api.Large, n, 1)), smap(mapping(n, api.Huge, 64, 1)), smap(mapping(64, api.Huge, n, 1)))
	}
	wrong[api.ErrNone] = steps(unmap(last), protect(last, 1), unmap(6), protect(6, 7))
	return wrong
}

// mustGoOnAlike fails unless a Watch goes on as a Space does, from where both are.
func mustGoOnAlike(t *testing.T, w *watch.Watch, s *space.Space) {
	t.Helper()
	for _, step := range steps(times(6, walk(0)), times(6, walk(w.Cores()-1)), ack(0), ack(1), ack(2), ack(3), evict(0), read(0, 9), more) {
		mustDo(t, w, step, s.Do(step))
		mustLookLike(t, w, look(s))
	}
}

// Steps that can't be tell their codes, and no fault; they change nothing that is told of the Watch, in whatever scene, and it goes on as if nothing had been asked.
func TestWrongSteps(t *testing.T) {
	for _, x := range scenes() {
		w, s := x.reach(t)
		was, count := look(w), w.Times()
		for code, wrong := range wrongSteps(x.cores) {
			for _, step := range wrong {
				mustDo(t, w, step, refused(code))
			}
			mustLookLike(t, w, was)
		}
		for code, wrong := range wrongChanges() {
			if w.Busy() {
				code = api.ErrBusy
			}
			for _, step := range wrong {
				mustDo(t, w, step, refused(code))
			}
			mustLookLike(t, w, was)
		}
		mustHaveTimes(t, w, count)
		mustGoOnAlike(t, w, s)
	}
}

// A step that tells a code, whichever it is, changes nothing that is told.
func TestRefusedStepsChangeNothing(t *testing.T) {
	for _, x := range scenes() {
		w, s := x.reach(t)
		for _, step := range steps(smap(small), smap(mapping(0, api.Huge, 0, 0)), unmap(645), protect(645, 1), read(0, 5), read(1, 5), walk(0), walk(1), ack(0), ack(1), ack(2), evict(0), evict(1)) {
			was, count := look(w), w.Times()
			e := s.Do(step)
			mustDo(t, w, step, e)
			if e.Code != 0 {
				mustLookLike(t, w, was)
				mustHaveTimes(t, w, count)
				mustRefuse(t, w, step, e.Code)
			}
			mustLookLike(t, w, look(s))
		}
	}
}

// Neither Kept nor On nor Waits knows a core that is none; cores that others have are none, too. Nor does Find know a page that is none.
func TestCoresAndPagesThatAreNone(t *testing.T) {
	for _, x := range scenes() {
		w, _ := x.reach(t)
		was := look(w)
		for _, core := range noCoresOf(x.cores) {
			if got := lookAtCore(w, core); !got.is(onCore{}) {
				t.Fatalf("of the core %d is told %v, want nothing", core, got)
			}
		}
		for _, p := range farOff {
			if m, e, code := w.Find(p); m != (api.Map{}) || e != (api.Entry{}) || code != api.ErrRange {
				t.Fatalf("Find(%d): %v, %v, %d, want ErrRange alone", p, m, e, code)
			}
		}
		mustLookLike(t, w, was)
	}
}

// Changes look at no Core and at no A, steps of cores at no M and, but SAccess, at no A, whatever stands there.
func TestStepsLookAtTheirOwnAlone(t *testing.T) {
	for _, n := range farOff {
		m, a := mapping(n, n, n, n), api.Access{Page: n, Kind: n, User: true}
		w := mustNew(t, 1, 4)
		mustDo(t, w, api.Step{Kind: api.SMap, Core: n, M: small, A: a}, back)
		mustGo(t, w, api.Step{Kind: api.SAccess, M: m, A: api.Access{Page: 5}})
		for range 4 {
			mustGo(t, w, api.Step{Kind: api.SWalk, M: m, A: a})
		}
		mustDo(t, w, api.Step{Kind: api.SWalk, M: m, A: a}, done(9, 3))
		mustGo(t, w, api.Step{Kind: api.SProtect, Core: n, M: mapping(5, n, n, 1), A: a})
		mustDo(t, w, api.Step{Kind: api.SAccess, M: m, A: api.Access{Page: 5}}, done(9, 3))
		mustDo(t, w, api.Step{Kind: api.SAck, M: m, A: a}, back)
		mustKeep(t, w, 0, 5, false)
		mustGo(t, w, api.Step{Kind: api.SEvict, M: m, A: a})
		mustGo(t, w, api.Step{Kind: api.SUnmap, Core: n, M: mapping(5, n, n, n), A: a})
		mustAck(t, w, 0)
		mustHaveTimes(t, w, 3)
	}
}
