package desk_test

import (
	"slices"
	"strings"
	"testing"

	"wayleave/api"
	"wayleave/desk"
)

// TestHowManyLines: none, one, as many as may be; of one more, and of more still, nothing is done.
func TestHowManyLines(t *testing.T) {
	for _, n := range []int{0, 1, 2, api.MaxLines - 1, api.MaxLines} {
		tells(t, desk.New(), strings.Repeat("what\n", n), slices.Repeat([]string{"x"}, n)...)
		tells(t, desk.New(), strings.Repeat("ok\n", n), slices.Repeat([]string{"new 1 1"}, n)...)
		tells(t, desk.New(), "", make([]string, n)...)
	}
	for _, n := range []int{api.MaxLines + 1, api.MaxLines + 2, 2 * api.MaxLines, 100000} {
		d := desk.New()
		faults(t, d, api.ErrMany, -1, slices.Repeat([]string{"new 1 4"}, n)...)
		tells(t, d, "what\n", "list")
		do(t, d, "new 1 4", "map 5 0 9 1")
		for _, line := range []string{"", "unmap 5", "new 1 4", "new 0 0", "x"} {
			faults(t, d, api.ErrMany, -1, slices.Repeat([]string{line}, n)...)
			tells(t, d, "map 5 0 9 1\nend\nno 9\n", "list", "ack 0")
		}
	}
	// Those of one Do are counted, not those of all.
	d := desk.New()
	for range 5 {
		tells(t, d, strings.Repeat("what\n", api.MaxLines), slices.Repeat([]string{"x"}, api.MaxLines)...)
	}
}

// TestLastLine: of as many lines as may be the last one is done, too.
func TestLastLine(t *testing.T) {
	lines := make([]string, api.MaxLines)
	lines[0], lines[api.MaxLines-1] = "new 1 4", "map 5 0 9 1"
	d := desk.New()
	tells(t, d, "ok\nback\n", lines...)
	tells(t, d, "map 5 0 9 1\nend\n", "list")
}

// TestManyAheadOfLine: of too many lines ErrMany is told, also if one has a newline in it.
func TestManyAheadOfLine(t *testing.T) {
	for _, at := range []int{0, 1, api.MaxLines - 1, api.MaxLines} {
		lines := make([]string, api.MaxLines+1)
		lines[at] = "a\nb"
		faults(t, desk.New(), api.ErrMany, -1, lines...)
	}
	lines := make([]string, api.MaxLines)
	lines[api.MaxLines-1] = "\n"
	faults(t, desk.New(), api.ErrLine, api.MaxLines-1, lines...)
}

// TestNewline: the first line with one, and nothing is done, neither of those ahead of it nor of those behind it.
func TestNewline(t *testing.T) {
	for _, bad := range []string{"\n", "a\nb", "list\n", "\nlist", "new 1 4\n", "new 1\n4", "unmap 5\n", "  \n  ", "\n\n\n", "\r\n", "x\x00\n", "\xff\n", strings.Repeat("x", 5000) + "\n", "new 0 0\nnew 0 0"} {
		for at := range 4 {
			d := scene(t, "new 2 4", "map 5 0 9 1", "access 1 5 0 0", "walk 1")
			was := sight(t, d)
			lines := []string{"unmap 5", "new 0 0", "new 1 8", "walk 1"}
			lines[at] = bad
			faults(t, d, api.ErrLine, at, lines...)
			lines[3] = "another\n"
			faults(t, d, api.ErrLine, at, lines...)
			if is := sight(t, d); is != was {
				t.Fatalf("behind %q at %d: %q, was %q", bad, at, is, was)
			}
			tells(t, d, "ok\nok\nok\nframe 9 1\n", "walk 1", "walk 1", "walk 1", "walk 1")

			d = desk.New()
			lines = []string{"new 1 4", "new 1 4", "new 1 4", "new 1 4"}
			lines[at] = bad
			faults(t, d, api.ErrLine, at, lines...)
			tells(t, d, "what\n", "list")
		}
	}
}

// TestNoNewline: other bytes that end lines elsewhere are no newlines.
func TestNoNewline(t *testing.T) {
	for _, line := range []string{"\r", "a\rb", "\v", "\f", "\u2028", "\u2029", "\u0085", "\x00", `\n`, "list\r", "\rlist", "\x8a", "\u010a", "\u0a0a"} {
		play(t, said{line, "what"}, said{"new 1 4", "ok"}, said{line, "what"}, said{"list", "end"})
	}
}

// TestTwoDo: what two Do tell one behind the other one Do of both tells, wherever the lines are parted.
func TestTwoDo(t *testing.T) {
	lines := []string{"list", "new 2 5", "map 5 0 9 3", "", "access 0 5 1 0", "walk 0", "protect 6 1", "what", "protect 5 1", "walk 0", "kept 0", "calm", "new x", "find 5", "unmap 5", "ack 1", "  ", "access 1 5 0 0", "list", "calm", "kept 0", "new 9 9", "list", "new 1 1", "calm"}
	whole := do(t, desk.New(), lines...)
	for i := range len(lines) + 1 {
		d := desk.New()
		if both := do(t, d, lines[:i]...) + do(t, d, lines[i:]...); both != whole {
			t.Errorf("parted at %d: %q, want %q", i, both, whole)
		}
		for k := i; k <= len(lines); k++ {
			d := desk.New()
			if three := do(t, d, lines[:i]...) + do(t, d, lines[i:k]...) + do(t, d, lines[k:]...); three != whole {
				t.Errorf("parted at %d and %d: %q, want %q", i, k, three, whole)
			}
		}
	}
}

// TestTwoDesks: they know nothing of each other, and a new one tells again what was told.
func TestTwoDesks(t *testing.T) {
	a, b := desk.New(), desk.New()
	tells(t, a, "ok\nback\n", "new 1 4", "map 5 0 9 1")
	tells(t, b, "what\n", "list")
	tells(t, b, "ok\nend\nback\n", "new 2 8", "list", "map 6 0 7 3")
	tells(t, a, "map 5 0 9 1\nend\nok\n", "list", "access 0 5 0 0")
	tells(t, b, "map 6 0 7 3\nend\nno 9\nno 9\n", "list", "walk 0", "walk 1")
	tells(t, a, "ok\n", "unmap 5")
	tells(t, b, "no 9\nmap 6 0 7 3\nend\n", "ack 0", "list")
	tells(t, a, "no 1\n", "new 0 0")
	tells(t, b, "map 6 0 7 3\nend\ncalm 4 4\n", "list", "calm")
	tells(t, a, "what\n", "list")
	lines := []string{"new 2 8", "list", "map 6 0 7 3", "list", "walk 0", "walk 1", "ack 0", "list", "calm"}
	want := "ok\nend\nback\nmap 6 0 7 3\nend\nno 9\nno 9\nno 9\nmap 6 0 7 3\nend\ncalm 4 4\n"
	for range 3 {
		tells(t, desk.New(), want, lines...)
	}
}

// TestHandedIn: a list is as it was behind the call, also what lies behind its length, which is not read.
func TestHandedIn(t *testing.T) {
	all := []string{"new 1 4", "map 5 0 9 1", "  list  ", "x", "", "calm", "new 0 0", "behind\nit", "unmap 5"}
	was := slices.Clone(all)
	d := desk.New()
	tells(t, d, "ok\nback\nmap 5 0 9 1\nend\nwhat\ncalm 0 4\n", all[:6]...)
	if !slices.Equal(all, was) {
		t.Errorf("handed in: %q, was %q", all, was)
	}
	tells(t, d, "map 5 0 9 1\nend\n", "list")
	faults(t, d, api.ErrLine, 7, all...)
	if !slices.Equal(all, was) {
		t.Errorf("handed in, with a fault: %q, was %q", all, was)
	}
}

// TestNotKept: what is done with a list behind the call changes nothing, and what was told stays as it was.
func TestNotKept(t *testing.T) {
	d := desk.New()
	lines := []string{"new 1 4", "map 5 0 9 1", "list"}
	first := do(t, d, lines...)
	lines[0], lines[1], lines[2] = "new 0 0", "unmap 5", "x"
	second := do(t, d, "list", "unmap 5", "calm")
	third := do(t, d, slices.Repeat([]string{"list"}, 200)...)
	if first != "ok\nback\nmap 5 0 9 1\nend\n" || second != "map 5 0 9 1\nend\nok\nback\ncalm 3 1\n" || third != strings.Repeat("end\n", 200) {
		t.Errorf("told: %q, %q, %q", first, second, third)
	}
}
