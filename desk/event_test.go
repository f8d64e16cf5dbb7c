package desk_test

import (
	"testing"

	"wayleave/api"
	"wayleave/desk"
)

// TestEvents: each form of what is told of a step.
func TestEvents(t *testing.T) {
	start := talk(said{"new 1 8", "ok"}, said{"map 5 0 9 1", "back"})
	for _, l := range [][]said{
		{{"access 0 6 0 0", "ok"}, {"walk 0", "ok"}, {"walk 0", "ok"}, {"walk 0", "ok"}, {"walk 0", "unmapped"}, {"walk 0", "no 9"}},
		{{"access 0 4095 1 1", "ok"}, {"walk 0", "unmapped"}, {"walk 0", "no 9"}},
		{{"access 0 5 0 1", "ok"}, {"walk 0", "ok"}, {"walk 0", "ok"}, {"walk 0", "ok"}, {"walk 0", "forbidden"}, {"walk 0", "no 9"}},
		{{"access 0 5 0 0", "ok"}, {"walk 0", "ok"}, {"walk 0", "ok"}, {"walk 0", "ok"}, {"walk 0", "ok"}, {"walk 0", "frame 9 1"}, {"walk 0", "no 9"}, {"access 0 5 0 0", "frame 9 1"}, {"access 0 5 2 0", "forbidden"}, {"evict 0", "ok"}, {"evict 0", "no 9"}},
		{{"unmap 5", "ok"}, {"ack 0", "back"}, {"ack 0", "no 9"}},
		{{"protect 5 0", "ok"}, {"ack 0", "back"}},
		{{"map 6 0 0 0", "back"}, {"access 0 6 0 0", "ok"}, {"walk 0", "ok"}, {"walk 0", "ok"}, {"walk 0", "ok"}, {"walk 0", "ok"}, {"walk 0", "frame 0 0"}},
	} {
		play(t, start, l)
	}
}

// TestCodes: of each code that a step may have, no and that code alone.
func TestCodes(t *testing.T) {
	play(t,
		said{"new 1 4", "ok"}, said{"map 5 0 9 1", "back"},
		said{"walk 1", "no 1"}, said{"map 0 3 0 0", "no 2"}, said{"map 1 1 0 0", "no 3"}, said{"map 5 0 9 1", "no 4"}, said{"unmap 6", "no 5"}, said{"map 512 0 0 0", "no 6"},
		said{"access 0 0 3 0", "no 2"}, said{"unmap 5", "ok"}, said{"protect 5 1", "no 8"}, said{"access 0 0 0 0", "ok"}, said{"access 0 0 0 0", "no 8"}, said{"evict 0", "no 9"},
	)
}

// TestExamples: those of the document: five steps of an access, and three frames that are free when the core has looked after it.
func TestExamples(t *testing.T) {
	play(t,
		said{"new 1 4", "ok"}, said{"map 5 0 9 1", "back"}, said{"calm", "calm 0 4"},
		said{"access 0 5 0 0", "ok"}, again(4, "walk 0", "ok"), said{"walk 0", "frame 9 1"},
		said{"unmap 5", "ok"}, said{"access 0 5 0 0", "frame 9 1"}, said{"ack 0", "back"}, said{"calm", "calm 3 1"}, said{"find 5", "no 5"},
		said{"access 0 5 0 0", "ok"}, said{"walk 0", "unmapped"},
	)
}

// TestWatchFault: a Watch never has a fault. An access that began behind its back makes one; then no, the code and At are told, of each step from then on, also of those that calm makes.
func TestWatchFault(t *testing.T) {
	began := func() *desk.Desk {
		d := scene(t, "new 1 4", "map 5 0 9 1")
		desk.BehindItsBack(d, api.Step{Kind: api.SAccess, A: api.Access{Page: 5}})
		return d
	}
	d := began()
	tells(t, d, "ok\nok\nok\nok\nno 13 5\nno 13 5\nno 13 5\n", "walk 0", "walk 0", "walk 0", "walk 0", "walk 0", "walk 0", "map 6 0 0 0")
	d = began()
	tells(t, d, "no 13 5\ncalm 0 4\ncalm 0 4\nno 13 5\nmap 5 0 9 1\nend\n", "calm", "calm", "walk 0", "list")
}
