package watch_test

import (
	"testing"

	"wayleave/api"
)

// Each change without a code makes one time more, when it is begun; whatever else is done makes none.
func TestTimes(t *testing.T) {
	for cores := 1; cores <= 4; cores++ {
		w := mustNew(t, cores, 8)
		mustHaveTimes(t, w, 0)
		mustMap(t, w, small)
		mustHaveTimes(t, w, 1)
		mustMap(t, w, large)
		mustHaveTimes(t, w, 2)
		mustGo(t, w, protect(5, 1))
		mustHaveTimes(t, w, 3)
		for core := range cores {
			mustDo(t, w, ack(core), map[bool]api.Event{false: going, true: back}[core == cores-1])
			mustHaveTimes(t, w, 3)
		}
		mustGo(t, w, unmap(12))
		mustHaveTimes(t, w, 4)
		mustAck(t, w, upTo(cores)...)
		mustHaveTimes(t, w, 4)
		mustMap(t, w, large)
		mustHaveTimes(t, w, 5)
	}
}

// A change of rights to those that there are already is a change like others; so is a mapping that comes again as it was.
func TestTimesOfChangesToTheSame(t *testing.T) {
	w := mustNew(t, 1, 4)
	mustMap(t, w, small)
	for n := range 20 {
		mustGo(t, w, protect(5, small.Rights))
		mustHaveTimes(t, w, 2+3*n)
		mustAck(t, w, 0)
		mustGo(t, w, unmap(5))
		mustHaveTimes(t, w, 3+3*n)
		mustAck(t, w, 0)
		mustMap(t, w, small)
		mustHaveTimes(t, w, 4+3*n)
	}
}

// A change with a code makes none, be it asked for while nothing is begun, or while a change is not over, and whatever its code is.
func TestTimesOfChangesWithACode(t *testing.T) {
	w := mustNew(t, 2, 4)
	mustRefuse(t, w, unmap(5), api.ErrNone)
	mustRefuse(t, w, protect(5, 1), api.ErrNone)
	mustHaveTimes(t, w, 0)
	mustMap(t, w, small)
	for _, x := range []struct {
		step api.Step
		code int
	}{
		{smap(small), api.ErrThere}, {smap(mapping(0, api.Large, 0, 0)), api.ErrThere}, {smap(mapping(645, api.Small, 0, 0)), api.ErrFull},
		{smap(mapping(6, 3, 0, 0)), api.ErrKind}, {smap(mapping(-1, api.Small, 0, 0)), api.ErrRange}, {smap(mapping(6, api.Small, 0, 8)), api.ErrRange}, {smap(mapping(4, api.Large, 0, 0)), api.ErrAlign},
		{unmap(6), api.ErrNone}, {unmap(-1), api.ErrRange}, {protect(6, 1), api.ErrNone}, {protect(5, 8), api.ErrRange}, {protect(api.Pages, 1), api.ErrRange},
	} {
		mustRefuse(t, w, x.step, x.code)
		mustHaveTimes(t, w, 1)
	}
	mustGo(t, w, protect(5, 0), ack(1))
	for _, x := range steps(smap(mapping(6, api.Small, 0, 0)), smap(mapping(0, 9, 0, 0)), unmap(5), unmap(-1), protect(5, 1), protect(5, 8)) {
		mustRefuse(t, w, x, api.ErrBusy)
		mustHaveTimes(t, w, 2)
	}
	mustAck(t, w, 0)
	mustHaveTimes(t, w, 2)
}

// Accesses, walks and lines that go make none, nor do marks; nor steps that can't be.
func TestTimesOfStepsThatChangeNothing(t *testing.T) {
	w := mustNew(t, 2, 4)
	mustMap(t, w, small)
	for _, x := range []struct {
		step api.Step
		want api.Event
	}{
		{write(0, 5), going}, {walk(0), going}, {walk(0), going}, {walk(0), going}, {walk(0), going}, {walk(0), done(9, 3)},
		{read(0, 5), done(9, 3)}, {begin(0, api.Access{Page: 5, Kind: api.Run}), notAllowed}, {read(1, 6), going}, {read(1, 6), refused(api.ErrBusy)},
		{ack(0), refused(api.ErrIdle)}, {evict(1), refused(api.ErrIdle)}, {evict(0), going}, {evict(0), refused(api.ErrIdle)}, {walk(2), refused(api.ErrRange)}, {api.Step{}, refused(api.ErrKind)},
	} {
		mustDo(t, w, x.step, x.want)
		mustHaveTimes(t, w, 1)
	}
}

// Times go on for long.
func TestManyTimes(t *testing.T) {
	w := mustNew(t, 1, 4)
	for n := range 5000 {
		mustMap(t, w, mapping(5, api.Small, n, 3))
		mustGo(t, w, unmap(5))
		mustAck(t, w, 0)
		mustHaveTimes(t, w, 2*n+2)
	}
}
