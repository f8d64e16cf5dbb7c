package watch_test

import (
	"testing"

	"wayleave/api"
	"wayleave/tlb"
	"wayleave/watch"
)

// mustKeep makes a core keep a line of a mapping that is there, of which no line is kept.
func mustKeep(t *testing.T, w *watch.Watch, core, p int, isDirty bool) {
	t.Helper()
	mustGo(t, w, begin(core, api.Access{Page: p, Kind: map[bool]int{false: api.Read, true: api.Write}[isDirty]}))
	for range 6 {
		e, fault := w.Do(walk(core))
		if fault != (api.Fault{}) || e.Code != 0 {
			t.Fatalf("Do(%v): %v, %v", walk(core), e, fault)
		}
		if e.Ended && e.Answer.End == api.Done {
			return
		}
	}
	t.Fatalf("the access of the page %d by the core %d does not end", p, core)
}

// endOf tells how an access ends, step by step or at once.
func endOf(t *testing.T, w *watch.Watch, core int, a api.Access) api.Event {
	t.Helper()
	e, fault := w.Do(begin(core, a))
	for n := 0; n < 20 && !e.Ended && e.Code == 0; n++ {
		e, fault = w.Do(walk(core))
	}
	if fault != (api.Fault{}) || !e.Ended {
		t.Fatalf("%v of the core %d: %v, %v", a, core, e, fault)
	}
	return e
}

// eventBy tells how an access is to end by a mapping that has its page.
func eventBy(m api.Map, a api.Access) api.Event {
	if !lets(m.Rights, a) {
		return notAllowed
	}
	return done(m.Frame+a.Page-m.Page, m.Rights)
}

// An access that begins while no change is begun, and ends ahead of the next one, is answered by what is mapped: step by step, and then by what is kept.
func TestAccessBetweenChanges(t *testing.T) {
	for size := range 3 {
		for rights := range 8 {
			m := mapping(640, size, 64, rights)
			for _, p := range []int{640, 640 + spans[size] - 1} {
				for _, a := range accesses(p) {
					w := mustNew(t, 2, 4)
					mustMap(t, w, m)
					for range 3 {
						for core := range 2 {
							if got := endOf(t, w, core, a); got != eventBy(m, a) {
								t.Fatalf("%v of %v: %v", a, m, got)
							}
						}
					}
					if got := endOf(t, w, 0, api.Access{Page: 640 + spans[size]}); got != notMapped {
						t.Fatalf("of a page that is not mapped: %v", got)
					}
				}
			}
		}
	}
}

// WHAT FOLLOWS: an access that begins when an unmap is over finds nothing, whichever core kept it, and in whichever order they looked after it.
func TestAccessBehindUnmap(t *testing.T) {
	for _, m := range []api.Map{small, large, mapping(128, api.Huge, 640, 7)} {
		for _, order := range [][]int{{0, 1, 2}, {2, 0, 1}, {1, 2, 0}} {
			for _, a := range accesses(m.Page + spans[m.Size] - 1) {
				w := mustNew(t, 3, 5)
				mustMap(t, w, m)
				mustKeep(t, w, 0, m.Page, true)
				mustKeep(t, w, 1, m.Page, false)
				mustGo(t, w, unmap(m.Page))
				mustAck(t, w, order...)
				for core := range 3 {
					if got := endOf(t, w, core, a); got != notMapped {
						t.Fatalf("the core %d: %v of %v ended with %v", core, a, m, got)
					}
				}
			}
		}
	}
}

// WHAT FOLLOWS: an access that begins when a protect is over is answered by the rights of then.
func TestAccessBehindProtect(t *testing.T) {
	for size := range 3 {
		for rights := range 8 {
			m := mapping(128, size, 640, 7)
			after := mapping(128, size, 640, rights)
			for _, a := range accesses(128 + spans[size] - 1) {
				w := mustNew(t, 3, 5)
				mustMap(t, w, m)
				mustKeep(t, w, 0, 128, true)
				mustKeep(t, w, 1, 128, false)
				mustGo(t, w, protect(128+spans[size]/2, rights))
				mustAck(t, w, 1, 0, 2)
				for core := range 3 {
					if got := endOf(t, w, core, a); got != eventBy(after, a) {
						t.Fatalf("the core %d: %v of %v ended with %v", core, a, after, got)
					}
				}
			}
		}
	}
}

// While a change is not over an access may be answered by what is kept, as it was, or by a walk, as it is; from SAck on a core has the walk alone.
func TestAccessWhileAChangeIsNotOver(t *testing.T) {
	w := mustNew(t, 3, 5)
	mustMap(t, w, small, large)
	for core := range 2 {
		mustKeep(t, w, core, 5, true)
		mustKeep(t, w, core, 9, true)
	}
	read5 := api.Access{Page: 5}
	mustGo(t, w, unmap(5))
	mustDo(t, w, begin(0, read5), done(9, 3))
	mustDo(t, w, write(1, 5), done(9, 3))
	if got := endOf(t, w, 2, read5); got != notMapped {
		t.Fatalf("by a walk: %v", got)
	}
	mustGo(t, w, ack(0))
	if got := endOf(t, w, 0, read5); got != notMapped {
		t.Fatalf("by a walk, behind SAck: %v", got)
	}
	mustDo(t, w, begin(1, read5), done(9, 3))
	mustGo(t, w, ack(2))
	mustAck(t, w, 1)

	write9 := api.Access{Page: 9, Kind: api.Write}
	mustGo(t, w, protect(9, api.MayRun))
	mustDo(t, w, begin(0, write9), done(17, 7))
	if got := endOf(t, w, 2, write9); got != notAllowed {
		t.Fatalf("by a walk: %v", got)
	}
	mustGo(t, w, ack(0), ack(2), write(0, 9))
	mustDo(t, w, begin(1, write9), done(17, 7))
	mustEnd(t, w, 0, 2, notAllowed)
	mustAck(t, w, 1)
	if got := endOf(t, w, 1, write9); got != notAllowed {
		t.Fatalf("behind the last SAck: %v", got)
	}
	mustHaveTimes(t, w, 4)
}

// An access that began ahead of a change may end behind it, and behind others, at each step of its way.
func TestAccessOverChanges(t *testing.T) {
	for count := range 5 {
		for _, x := range []struct {
			changes []api.Step
			end     api.Event
		}{
			{steps(unmap(5)), notMapped},
			{steps(unmap(5), ack(0), ack(1)), notMapped},
			{steps(unmap(5), ack(1), ack(0), smap(mapping(5, api.Small, 77, 7))), done(77, 7)},
			{steps(unmap(5), ack(1), ack(0), smap(mapping(0, api.Large, 80, 1))), done(85, 1)},
			{steps(unmap(5), ack(1), ack(0), smap(mapping(0, api.Huge, 64, 6))), notAllowed},
			{steps(protect(5, 0)), notAllowed},
			{steps(protect(5, 1), ack(0), ack(1)), done(9, 1)},
			{steps(protect(5, 0), ack(0), ack(1), protect(5, 7)), done(9, 7)},
			{steps(protect(5, 0), ack(0), ack(1), protect(5, 3), ack(1)), done(9, 3)},
		} {
			w := mustNew(t, 2, 4)
			mustMap(t, w, small)
			mustGo(t, w, write(0, 5))
			mustGo(t, w, times(count, walk(0))...)
			for _, step := range x.changes {
				if e, fault := w.Do(step); e.Code != 0 || fault != (api.Fault{}) {
					t.Fatalf("Do(%v): %v, %v", step, e, fault)
				}
			}
			mustWalkTo(t, w, 0, x.end)
		}
	}
}

// mustWalkTo fails unless a core's access, in however many steps, ends like this.
func mustWalkTo(t *testing.T, w *watch.Watch, core int, want api.Event) {
	t.Helper()
	for range 20 {
		e, fault := w.Do(walk(core))
		if fault != (api.Fault{}) || e != going && e != want {
			t.Fatalf("the core %d: %v, %v, want %v", core, e, fault, want)
		}
		if e.Ended {
			return
		}
	}
	t.Fatalf("the access of the core %d does not end", core)
}

// Accesses of several cores begin at several times, and end in another order.
func TestAccessesOfSeveralCores(t *testing.T) {
	w := mustNew(t, 4, 4)
	mustGo(t, w, read(0, 5))
	mustMap(t, w, small)
	mustGo(t, w, write(1, 5), walk(1))
	mustGo(t, w, protect(5, 5), read(2, 5))
	mustAck(t, w, 3, 2, 1, 0)
	mustGo(t, w, begin(3, api.Access{Page: 5, Kind: api.Run}))
	mustWalkTo(t, w, 3, done(9, 5))
	mustGo(t, w, unmap(5))
	mustDo(t, w, read(3, 5), done(9, 5))
	mustWalkTo(t, w, 1, notMapped)
	mustAck(t, w, 0, 1, 2, 3)
	mustWalkTo(t, w, 2, notMapped)
	mustMap(t, w, mapping(5, api.Small, 10, 0))
	mustGo(t, w, write(2, 5))
	mustWalkTo(t, w, 0, done(10, 0))
	mustWalkTo(t, w, 2, notAllowed)
	mustHaveTimes(t, w, 4)
}

// A page is mapped, unmapped, and mapped anew, with another frame, with other rights: each time of its own is what is answered, by lines, too.
func TestMapAnew(t *testing.T) {
	w := mustNew(t, 2, 4)
	for n := range 40 {
		m := mapping(5, api.Small, 100+n/2, (n+1)%8|1)
		mustMap(t, w, m)
		for range 2 {
			for core := range 2 {
				if got := endOf(t, w, core, api.Access{Page: 5, Kind: api.Write}); got != eventBy(m, api.Access{Page: 5, Kind: api.Write}) {
					t.Fatalf("%v: %v", m, got)
				}
			}
		}
		for core := range 2 {
			if kept := w.Kept(core); len(kept) != 1 || kept[0] != (tlb.Line{M: m, Dirty: true}) {
				t.Fatalf("the core %d keeps %v", core, kept)
			}
		}
		mustGo(t, w, unmap(5))
		mustAck(t, w, n%2, 1-n%2)
		if got := endOf(t, w, n%2, api.Access{Page: 5}); got != notMapped {
			t.Fatalf("behind unmap of %v: %v", m, got)
		}
	}
}

// An access is on its way for very many changes, of a Watch that has much mapped, and ends as what is mapped then says.
func TestAccessOverVeryManyChanges(t *testing.T) {
	w := mustNew(t, 2, 128)
	for p := 0; p < 640; p++ {
		if p != 5 {
			mustMap(t, w, mapping(p, api.Small, p, 7))
		}
	}
	mustGo(t, w, read(0, 5), walk(0))
	for n := range 3000 {
		mustMap(t, w, mapping(5, api.Small, n, n%8))
		mustGo(t, w, unmap(5), ack(0), walk(0))
		mustAck(t, w, 1)
	}
	mustMap(t, w, mapping(5, api.Small, 4444, 5))
	mustWalkTo(t, w, 0, done(4444, 5))
}
