package desk_test

import (
	"testing"

	"wayleave/desk"
)

// TestNewDesk: it has no Watch, and Do of no lines tells nothing.
func TestNewDesk(t *testing.T) {
	d := desk.New()
	tells(t, d, "")
	if got, fault := d.Do(nil); got != "" || fault.Code != 0 || fault.At != 0 {
		t.Errorf("Do of nil: %q, %v", got, fault)
	}
	if got, fault := d.Do([]string{}); got != "" || fault.Code != 0 || fault.At != 0 {
		t.Errorf("Do of an empty list: %q, %v", got, fault)
	}
	tells(t, d, "what\n", "list")
}

// TestRowNew: ok, or no and the code.
func TestRowNew(t *testing.T) {
	for _, line := range []string{"new 1 1", "new 1 128", "new 4 1", "new 4 128", "new 2 77"} {
		play(t, said{line, "ok"}, said{"list", "end"}, said{"calm", "calm " + freeOf[line] + " 1"})
	}
	for _, line := range []string{"new 0 1", "new 5 1", "new 1 0", "new 1 129", "new 0 0", "new 100000000 100000000", "new 4 1000", "new 64 4"} {
		play(t, said{line, "no 1"}, said{"list", "what"})
	}
}

// freeOf tells how many frames are free in a new Watch: all but the root's.
var freeOf = map[string]string{"new 1 1": "0", "new 1 128": "127", "new 4 1": "0", "new 4 128": "127", "new 2 77": "76"}

// TestNewAgain: the Watch that there was is no more, whether there is a new one or none.
func TestNewAgain(t *testing.T) {
	play(t,
		said{"new 2 4", "ok"}, said{"map 5 0 9 3", "back"}, said{"access 1 5 1 0", "ok"}, said{"protect 5 7", "ok"},
		said{"new 1 8", "ok"}, said{"list", "end"}, said{"find 5", "no 5"}, said{"walk 0", "no 9"}, said{"walk 1", "no 1"}, said{"ack 0", "no 9"},
		said{"calm", "calm 7 1"}, said{"map 5 0 8 1", "back"}, said{"list", "map 5 0 8 1\nend"},
		said{"new 1 8", "ok"}, said{"list", "end"},
	)
	for _, line := range []string{"new 0 4", "new 5 4", "new 1 0", "new 1 129"} {
		play(t,
			said{"new 1 4", "ok"}, said{"map 5 0 9 1", "back"}, said{line, "no 1"},
			said{"list", "what"}, said{"find 5", "what"}, said{"calm", "what"}, said{"map 5 0 9 1", "what"},
			said{"new 1 4", "ok"}, said{"list", "end"},
		)
	}
}

// TestNewThatIsNone: a line that is none changes nothing, also if it begins with new.
func TestNewThatIsNone(t *testing.T) {
	for _, line := range []string{"new", "new 1", "new 1 4 1", "new x 4", "new 1 x", "new 01 4", "new 1 -4", "New 1 4", "new 100000001 4", "new 1 100000001"} {
		play(t, said{line, "what"}, said{"list", "what"}, said{"new 1 4", "ok"}, said{"map 5 0 9 1", "back"}, said{line, "what"}, said{"list", "map 5 0 9 1\nend"})
	}
}

// TestRowMap: Page, Size, Frame and Rights, each in its place.
func TestRowMap(t *testing.T) {
	play(t,
		said{"new 1 128", "ok"},
		said{"map 5 0 9 3", "back"}, said{"map 8 1 16 7", "back"}, said{"map 128 2 640 0", "back"}, said{"map 4095 0 1048575 5", "back"},
		said{"list", "map 5 0 9 3\nmap 8 1 16 7\nmap 128 2 640 0\nmap 4095 0 1048575 5\nend"},
		said{"map 5 0 9 3", "no 4"}, said{"map 15 0 9 3", "no 4"}, said{"map 0 1 8 3", "no 4"},
		said{"map 6 3 9 3", "no 2"}, said{"map 4096 0 9 3", "no 1"}, said{"map 6 0 1048576 3", "no 1"}, said{"map 6 0 9 8", "no 1"},
		said{"map 17 1 16 3", "no 3"}, said{"map 16 1 17 3", "no 3"}, said{"map 100000000 100000000 100000000 100000000", "no 2"},
		said{"list", "map 5 0 9 3\nmap 8 1 16 7\nmap 128 2 640 0\nmap 4095 0 1048575 5\nend"},
		said{"new 1 3", "ok"}, said{"map 5 0 9 3", "no 6"}, said{"map 8 1 16 7", "back"}, said{"map 5 0 9 3", "no 6"}, said{"unmap 9", "ok"}, said{"map 64 2 64 0", "no 8"},
	)
}

// TestRowUnmap: of any page that the mapping has; it is over when each core has looked after it.
func TestRowUnmap(t *testing.T) {
	play(t,
		said{"new 2 8", "ok"}, said{"map 5 0 9 3", "back"}, said{"map 8 1 16 7", "back"},
		said{"unmap 6", "no 5"}, said{"unmap 4096", "no 1"}, said{"unmap 12", "ok"},
		said{"list", "map 5 0 9 3\nend"}, said{"unmap 5", "no 8"}, said{"ack 0", "ok"}, said{"ack 1", "back"},
		said{"unmap 12", "no 5"}, said{"unmap 5", "ok"}, said{"list", "end"}, said{"ack 1", "ok"}, said{"ack 0", "back"}, said{"calm", "calm 7 1"},
	)
}

// TestRowProtect: Page, then Rights.
func TestRowProtect(t *testing.T) {
	play(t,
		said{"new 1 8", "ok"}, said{"map 5 0 9 3", "back"}, said{"map 3 0 8 1", "back"},
		said{"protect 5 4", "ok"}, said{"list", "map 3 0 8 1\nmap 5 0 9 4\nend"}, said{"protect 3 5", "no 8"}, said{"ack 0", "back"},
		said{"protect 3 5", "ok"}, said{"list", "map 3 0 8 5\nmap 5 0 9 4\nend"}, said{"ack 0", "back"},
		said{"protect 5 8", "no 1"}, said{"protect 4096 1", "no 1"}, said{"protect 6 1", "no 5"}, said{"protect 5 7", "ok"}, said{"find 5", "map 5 0 9 7 0 0"},
	)
}

// TestRowAccess: the core, Page, Kind and User, each in its place.
func TestRowAccess(t *testing.T) {
	play(t,
		said{"new 3 8", "ok"}, said{"map 2 0 9 5", "back"},
		said{"access 3 2 0 0", "no 1"}, said{"access 100000000 2 0 0", "no 1"}, said{"access 2 2 3 0", "no 2"}, said{"access 2 4096 0 0", "no 1"},
		said{"access 2 2 1 0", "ok"}, said{"access 2 2 1 0", "no 8"}, said{"walk 1", "no 9"}, again(4, "walk 2", "ok"), said{"walk 2", "frame 9 5"},
		said{"find 2", "map 2 0 9 5 1 1"}, said{"kept 2", "line 2 0 9 5 1\nend"}, said{"kept 1", "end"}, said{"kept 0", "end"},
		said{"access 2 2 0 0", "frame 9 5"}, said{"access 2 2 2 0", "frame 9 5"}, said{"access 2 2 1 0", "frame 9 5"}, said{"access 2 2 0 1", "forbidden"},
	)
}

// TestUser: U that is not 0 is a user's, whatever it is.
func TestUser(t *testing.T) {
	for _, u := range []string{"1", "2", "3", "10", "256", "65536", "99999999", "100000000"} {
		play(t,
			said{"new 1 4", "ok"}, said{"map 5 0 9 5", "back"}, said{"access 0 5 0 " + u, "ok"}, again(3, "walk 0", "ok"), said{"walk 0", "forbidden"}, said{"find 5", "map 5 0 9 5 0 0"},
			said{"access 0 5 0 0", "ok"}, again(4, "walk 0", "ok"), said{"walk 0", "frame 9 5"}, said{"access 0 5 0 " + u, "forbidden"}, said{"access 0 5 0 0", "frame 9 5"},
		)
	}
	play(t, said{"new 1 4", "ok"}, said{"map 5 0 9 2", "back"}, said{"access 0 5 0 7", "ok"}, again(4, "walk 0", "ok"), said{"walk 0", "frame 9 2"}, said{"access 0 5 0 1", "frame 9 2"})
	for _, u := range []string{"00", "01", "-1", "x", "100000001", "true"} {
		play(t, said{"new 1 4", "ok"}, said{"access 0 5 0 " + u, "what"}, said{"walk 0", "no 9"})
	}
}

// TestRowSteps: walk, ack and evict are of the core that is named, and of no other one.
func TestRowSteps(t *testing.T) {
	play(t,
		said{"new 2 8", "ok"}, said{"walk 0", "no 9"}, said{"walk 2", "no 1"}, said{"ack 1", "no 9"}, said{"ack 2", "no 1"}, said{"evict 1", "no 9"}, said{"evict 2", "no 1"}, said{"evict 100000000", "no 1"},
		said{"map 5 0 9 3", "back"}, said{"map 8 1 16 7", "back"}, said{"access 1 5 0 0", "ok"}, said{"walk 0", "no 9"}, again(4, "walk 1", "ok"), said{"walk 1", "frame 9 3"}, said{"walk 1", "no 9"},
		said{"access 1 15 1 1", "ok"}, again(3, "walk 1", "ok"), said{"walk 1", "frame 23 7"},
		said{"kept 1", "line 5 0 9 3 0\nline 8 1 16 7 1\nend"}, said{"evict 0", "no 9"}, said{"evict 1", "ok"}, said{"kept 1", "line 8 1 16 7 1\nend"}, said{"evict 1", "ok"}, said{"kept 1", "end"}, said{"evict 1", "no 9"},
		said{"unmap 5", "ok"}, said{"ack 1", "ok"}, said{"ack 1", "no 9"}, said{"ack 0", "back"}, said{"ack 0", "no 9"},
	)
}

// TestRowFind: the mapping, not the page; then Used and Dirty, each in its place.
func TestRowFind(t *testing.T) {
	play(t,
		said{"new 1 8", "ok"}, said{"find 5", "no 5"}, said{"find 4095", "no 5"}, said{"find 4096", "no 1"}, said{"find 100000000", "no 1"},
		said{"map 8 1 16 7", "back"}, said{"find 7", "no 5"}, said{"find 8", "map 8 1 16 7 0 0"}, said{"find 15", "map 8 1 16 7 0 0"}, said{"find 16", "no 5"},
		said{"access 0 9 0 0", "ok"}, again(3, "walk 0", "ok"), said{"find 9", "map 8 1 16 7 0 0"}, said{"walk 0", "frame 17 7"}, said{"find 9", "map 8 1 16 7 1 0"},
		said{"access 0 9 1 0", "ok"}, again(3, "walk 0", "ok"), said{"walk 0", "frame 17 7"}, said{"find 9", "map 8 1 16 7 1 1"},
		said{"protect 10 1", "ok"}, said{"find 9", "map 8 1 16 1 1 1"}, said{"ack 0", "back"}, said{"unmap 15", "ok"}, said{"find 9", "no 5"},
	)
}

// TestRowKept: of each line, the oldest one first; of a core that is none nothing but end.
func TestRowKept(t *testing.T) {
	play(t,
		said{"new 2 8", "ok"}, said{"kept 0", "end"}, said{"kept 1", "end"}, said{"kept 2", "end"}, said{"kept 4", "end"}, said{"kept 100000000", "end"},
		said{"map 128 2 640 7", "back"}, said{"map 5 0 9 3", "back"},
		said{"access 0 130 0 0", "ok"}, again(2, "walk 0", "ok"), said{"walk 0", "frame 642 7"},
		said{"access 0 5 1 0", "ok"}, again(4, "walk 0", "ok"), said{"walk 0", "frame 9 3"},
		said{"kept 0", "line 128 2 640 7 0\nline 5 0 9 3 1\nend"}, said{"kept 1", "end"}, said{"kept 2", "end"},
		said{"unmap 5", "ok"}, said{"kept 0", "line 128 2 640 7 0\nline 5 0 9 3 1\nend"}, said{"ack 0", "ok"}, said{"kept 0", "line 128 2 640 7 0\nend"},
	)
}

// TestRowList: what the tables say, by pages, rising.
func TestRowList(t *testing.T) {
	play(t,
		said{"new 1 128", "ok"}, said{"list", "end"},
		said{"map 4095 0 0 0", "back"}, said{"map 0 0 1048575 7", "back"}, said{"map 64 2 64 2", "back"}, said{"map 512 1 8 1", "back"},
		said{"list", "map 0 0 1048575 7\nmap 64 2 64 2\nmap 512 1 8 1\nmap 4095 0 0 0\nend"},
		said{"unmap 100", "ok"}, said{"list", "map 0 0 1048575 7\nmap 512 1 8 1\nmap 4095 0 0 0\nend"},
	)
}
