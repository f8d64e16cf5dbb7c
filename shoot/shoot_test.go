package shoot_test

import (
	"testing"

	"wayleave/api"
	"wayleave/shoot"
)

func TestLimit(t *testing.T) {
	if api.MaxCores != 4 {
		t.Fatalf("MaxCores: %d; the tests count on 4", api.MaxCores)
	}
}

func TestNew(t *testing.T) {
	s := shoot.New()
	if s == nil {
		t.Fatal("New: nil")
	}
	mustEnd(t, s, api.Map{})
	for count := 1; count <= 4; count++ {
		mustPost(t, shoot.New(), first, count, true)
	}
}

// The cores below the number are told, and no others.
func TestPostToEachNumber(t *testing.T) {
	for count := 1; count <= 4; count++ {
		s := shoot.New()
		mustPost(t, s, first, count, true)
		mustEnd(t, s, first, upTo(count)...)
	}
}

// A Post to as many as there may not be changes nothing, whether cores wait or not.
func TestPostToWrongNumbers(t *testing.T) {
	for _, x := range states() {
		for _, count := range noCounts {
			s := x.reach(t)
			mustPost(t, s, other, count, false)
			mustEnd(t, s, first, x.waits()...)
			mustPost(t, s, other, count, false)
			mustEnd(t, s, other)
		}
	}
}

// While a core waits, be it one alone or all, nothing is posted, and those that wait are told what they were to be told.
func TestPostWhileSomeWait(t *testing.T) {
	for _, x := range states() {
		if len(x.waits()) == 0 {
			continue
		}
		for count := 1; count <= 4; count++ {
			for _, m := range []api.Map{first, other, {}} {
				s := x.reach(t)
				for range 2 {
					mustPost(t, s, m, count, false)
					mustWait(t, s, x.waits()...)
				}
				mustEnd(t, s, first, x.waits()...)
			}
		}
	}
}

// It is the last Ack that lets a Post through, and none ahead of it.
func TestPostBehindEachAck(t *testing.T) {
	for count := 1; count <= 4; count++ {
		for again := 1; again <= 4; again++ {
			for _, order := range orders(upTo(count)) {
				s := shoot.New()
				mustPost(t, s, first, count, true)
				for _, core := range order {
					mustPost(t, s, other, again, false)
					mustAck(t, s, core, first)
				}
				mustPost(t, s, other, again, true)
				mustEnd(t, s, other, upTo(again)...)
			}
		}
	}
}

// A Post tells its own cores alone, whatever the one ahead of it told, more of them or fewer.
func TestPostBehindAnotherOne(t *testing.T) {
	for before := 1; before <= 4; before++ {
		for behind := 1; behind <= 4; behind++ {
			s := shoot.New()
			mustPost(t, s, first, before, true)
			mustEnd(t, s, first, upTo(before)...)
			mustPost(t, s, other, behind, true)
			mustEnd(t, s, other, upTo(behind)...)
			mustPost(t, s, first, before, true)
			mustEnd(t, s, first, upTo(before)...)
		}
	}
}

// The mapping is the same one as ahead: it is told again.
func TestPostOfTheSameAgain(t *testing.T) {
	s := shoot.New()
	for range 3 {
		for count := 1; count <= 4; count++ {
			mustPost(t, s, first, count, true)
			mustPost(t, s, first, count, false)
			mustEnd(t, s, first, upTo(count)...)
		}
	}
}

func TestWaitsOfEachCore(t *testing.T) {
	for _, x := range states() {
		s := x.reach(t)
		mustWait(t, s, x.waits()...)
	}
}

// To ask changes nothing, however often.
func TestWaitsAndOverChangeNothing(t *testing.T) {
	for _, x := range states() {
		s := x.reach(t)
		for range 3 {
			mustWait(t, s, x.waits()...)
		}
		mustEnd(t, s, first, x.waits()...)
	}
}

func TestAckInEveryOrder(t *testing.T) {
	for count := 1; count <= 4; count++ {
		for _, order := range orders(upTo(count)) {
			s := shoot.New()
			mustPost(t, s, first, count, true)
			waits := upTo(count)
			for _, core := range order {
				mustAck(t, s, core, first)
				waits = without(waits, core)
				mustWait(t, s, waits...)
			}
			mustEnd(t, s, first)
		}
	}
}

// A core looks after it once; a second Ack of its tells nothing, and takes nothing from the others.
func TestAckTwice(t *testing.T) {
	for _, x := range states() {
		for _, core := range x.acked {
			s := x.reach(t)
			for range 2 {
				mustNotAck(t, s, core)
				mustWait(t, s, x.waits()...)
			}
			mustEnd(t, s, first, x.waits()...)
		}
	}
}

func TestAckOfACoreThatWasNotTold(t *testing.T) {
	for _, x := range states() {
		for core := x.cores; core < 4; core++ {
			s := x.reach(t)
			for range 2 {
				mustNotAck(t, s, core)
				mustWait(t, s, x.waits()...)
			}
			mustEnd(t, s, first, x.waits()...)
		}
	}
}

// A core that was told ahead, and not by the last Post, has nothing to look after.
func TestAckOfACoreThatWasToldAheadAlone(t *testing.T) {
	for before := 2; before <= 4; before++ {
		for behind := 1; behind < before; behind++ {
			s := shoot.New()
			mustPost(t, s, first, before, true)
			mustEnd(t, s, first, upTo(before)...)
			mustPost(t, s, other, behind, true)
			for core := behind; core < 4; core++ {
				mustNotAck(t, s, core)
			}
			mustEnd(t, s, other, upTo(behind)...)
		}
	}
}

func TestAckOfCoresThatAreNone(t *testing.T) {
	for _, x := range states() {
		for _, core := range noCores {
			s := x.reach(t)
			for range 2 {
				mustNotAck(t, s, core)
				mustWait(t, s, x.waits()...)
			}
			mustEnd(t, s, first, x.waits()...)
		}
	}
}

// What was posted is told to each core as it was, also what is no mapping.
func TestAckTellsWhatWasPosted(t *testing.T) {
	for count := 1; count <= 4; count++ {
		s := shoot.New()
		for _, m := range someMaps {
			mustPost(t, s, m, count, true)
			mustEnd(t, s, m, upTo(count)...)
		}
	}
}

// An Ack tells neither what was posted ahead nor what was to be posted and was not.
func TestAckTellsTheLastPostThatWasTrue(t *testing.T) {
	for _, ahead := range someMaps {
		for _, behind := range someMaps {
			s := shoot.New()
			mustPost(t, s, ahead, 3, true)
			mustAck(t, s, 1, ahead)
			mustPost(t, s, behind, 4, false)
			mustAck(t, s, 0, ahead)
			mustPost(t, s, behind, 1, false)
			mustAck(t, s, 2, ahead)
			mustPost(t, s, ahead, 0, false)
			mustPost(t, s, behind, 2, true)
			mustPost(t, s, ahead, 5, false)
			mustEnd(t, s, behind, 0, 1)
		}
	}
}

func TestOver(t *testing.T) {
	for count := 1; count <= 4; count++ {
		for _, order := range orders(upTo(count)) {
			s := shoot.New()
			mustBeOver(t, s, true)
			mustPost(t, s, first, count, true)
			mustBeOver(t, s, false)
			for n, core := range order {
				mustAck(t, s, core, first)
				mustBeOver(t, s, n == count-1)
			}
			mustPost(t, s, first, count, true)
			mustBeOver(t, s, false)
		}
	}
}

func mustBeOver(t *testing.T, s *shoot.Shoot, want bool) {
	t.Helper()
	if got := s.Over(); got != want {
		t.Fatalf("Over: %v, want %v", got, want)
	}
}

// What is asked of one Shoot changes no other one, in whatever state both are.
func TestTwoShoots(t *testing.T) {
	for _, x := range states() {
		for _, y := range states() {
			one, two := x.reach(t), y.reach(t)
			mustWait(t, one, x.waits()...)
			mustEnd(t, two, first, y.waits()...)
			mustPost(t, two, other, 4, true)
			mustEnd(t, one, first, x.waits()...)
			mustPost(t, one, api.Map{Page: 3}, 2, true)
			mustEnd(t, two, other, 0, 1, 2, 3)
			mustEnd(t, one, api.Map{Page: 3}, 0, 1)
		}
	}
}
