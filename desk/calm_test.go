package desk_test

import "testing"

// TestCalmAtRest: no event; then how many frames are free, and how many tables the root has.
func TestCalmAtRest(t *testing.T) {
	play(t,
		said{"new 1 8", "ok"}, said{"calm", "calm 7 1"}, said{"calm", "calm 7 1"},
		said{"map 5 0 9 3", "back"}, said{"calm", "calm 4 4"}, said{"map 8 1 8 0", "back"}, said{"calm", "calm 4 4"}, said{"map 512 2 64 0", "back"}, said{"calm", "calm 3 5"},
	)
	play(t, said{"new 4 1", "ok"}, said{"calm", "calm 0 1"}, said{"map 5 0 9 3", "no 6"}, said{"calm", "calm 0 1"})
	play(t, said{"new 4 128", "ok"}, said{"calm", "calm 127 1"})
}

// TestCalmWaits: each core that has something to look after does so, rising; the last one of them ends the change.
func TestCalmWaits(t *testing.T) {
	start := talk(said{"new 3 8", "ok"}, said{"map 5 0 9 3", "back"}, said{"unmap 5", "ok"})
	play(t, start, said{"calm", "ok\nok\nback\ncalm 7 1"}, said{"calm", "calm 7 1"}, said{"ack 0", "no 9"}, said{"unmap 5", "no 5"})
	play(t, start, said{"ack 1", "ok"}, said{"calm", "ok\nback\ncalm 7 1"})
	play(t, start, said{"ack 2", "ok"}, said{"ack 0", "ok"}, said{"calm", "back\ncalm 7 1"})
	play(t, start, said{"ack 2", "ok"}, said{"ack 0", "ok"}, said{"ack 1", "back"}, said{"calm", "calm 7 1"})
	play(t, said{"new 2 8", "ok"}, said{"map 5 0 9 3", "back"}, said{"protect 5 0", "ok"}, said{"calm", "ok\nback\ncalm 4 4"}, said{"list", "map 5 0 9 0\nend"})
}

// TestCalmOn: each core ends its access, rising.
func TestCalmOn(t *testing.T) {
	start := talk(said{"new 3 8", "ok"}, said{"map 5 0 9 3", "back"}, said{"map 8 1 8 0", "back"})
	play(t, start, said{"access 0 5 1 0", "ok"}, said{"calm", "ok\nok\nok\nok\nframe 9 3\ncalm 4 4"}, said{"calm", "calm 4 4"}, said{"walk 0", "no 9"}, said{"kept 0", "line 5 0 9 3 1\nend"})
	play(t, start, said{"access 0 5 1 0", "ok"}, again(4, "walk 0", "ok"), said{"calm", "frame 9 3\ncalm 4 4"})
	play(t, start,
		said{"access 2 9 0 0", "ok"}, said{"walk 2", "ok"}, said{"access 1 4000 2 1", "ok"}, said{"access 0 9 1 0", "ok"},
		said{"calm", "ok\nok\nforbidden\nunmapped\nok\nok\nframe 9 0\ncalm 4 4"}, said{"kept 2", "line 8 1 8 0 0\nend"},
	)
}

// TestCalmBoth: what is to be looked after is ahead of all walks, which begin their ways again.
func TestCalmBoth(t *testing.T) {
	play(t,
		said{"new 2 8", "ok"}, said{"map 5 0 9 3", "back"}, said{"access 1 5 0 0", "ok"}, again(4, "walk 1", "ok"), said{"unmap 5", "ok"}, said{"access 0 6 0 0", "ok"},
		said{"calm", "ok\nback\nunmapped\nunmapped\ncalm 7 1"}, said{"list", "end"},
	)
	play(t,
		said{"new 2 8", "ok"}, said{"map 5 0 9 3", "back"}, said{"access 1 5 1 0", "ok"}, again(4, "walk 1", "ok"), said{"protect 5 4", "ok"}, said{"access 0 5 2 0", "ok"}, said{"ack 1", "ok"},
		said{"calm", "back\nok\nok\nok\nok\nframe 9 4\nok\nok\nok\nforbidden\ncalm 4 4"},
	)
	// A leaf that another core marked in between is read once more.
	play(t,
		said{"new 2 8", "ok"}, said{"map 5 0 9 3", "back"}, said{"access 0 5 0 0", "ok"}, again(4, "walk 0", "ok"), said{"access 1 5 1 0", "ok"}, again(5, "walk 1", "ok")[:4], said{"walk 1", "frame 9 3"},
		said{"calm", "ok\nok\nok\nok\nframe 9 3\ncalm 4 4"},
	)
}

// TestCalmTells: frames that a change will give back are neither free nor the root's until it is over; calm tells of what is then.
func TestCalmTells(t *testing.T) {
	play(t,
		said{"new 1 8", "ok"}, said{"map 5 0 9 3", "back"}, said{"map 640 1 8 0", "back"}, said{"calm", "calm 2 6"},
		said{"unmap 5", "ok"}, said{"calm", "back\ncalm 5 3"}, said{"unmap 640", "ok"}, said{"ack 0", "back"}, said{"calm", "calm 7 1"},
	)
}
