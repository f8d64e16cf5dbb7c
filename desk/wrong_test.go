package desk_test

import (
	"fmt"
	"strings"
	"testing"

	"wayleave/api"
	"wayleave/desk"
)

// farOff are numbers of which most are neither a core, nor a page, a size, a frame, rights or a kind.
var farOff = []int{0, 1, 2, 3, 4, 5, 7, 8, 9, 127, 128, 129, 255, 256, 4095, 4096, 65535, 65536, api.MaxData - 1, api.MaxData, 16777216, 99999999, 100000000}

// TestFarOff: each kind of line, with such numbers in one place and in all of them.
func TestFarOff(t *testing.T) {
	for _, s := range append([]said{{"new 2 8", "ok"}}, forms...) {
		words := strings.Split(s.line, " ")
		for _, n := range farOff {
			for i := 1; i < len(words); i++ {
				changed := append([]string{}, words...)
				changed[i] = fmt.Sprint(n)
				p := newPair(t)
				p.do(sceneOf...)
				p.do(strings.Join(changed, " "), "list", "kept 0", "kept 1", "find 5", "find 7", "calm", "list")
			}
			p := newPair(t)
			p.do(sceneOf...)
			p.do(words[0]+strings.Repeat(fmt.Sprint(" ", n), len(words)-1), "list", "calm")
		}
	}
}

// TestCoresAndFrames: all numbers of cores and of frames that may be, and some that may not.
func TestCoresAndFrames(t *testing.T) {
	p := newPair(t)
	for _, cores := range []int{0, 1, 2, 3, 4, 5, 6, 100000000} {
		for n := range 132 {
			told := do(t, p.d, fmt.Sprintf("new %d %d", cores, n))
			if isOne := cores >= 1 && cores <= 4 && n >= 1 && n <= 128; (told == "ok\n") != isOne || (told == "no 1\n") == isOne {
				t.Errorf("new %d %d: %q", cores, n, told)
			}
			p.do(fmt.Sprintf("new %d %d", cores, n), "calm", "map 5 0 9 1", "access 3 5 0 0", "access 0 5 0 0", "calm", "kept 0", "kept 3", "unmap 5", "calm")
		}
	}
}

// TestLongWords: lines and words of a million bytes are none, or are what their words are.
func TestLongWords(t *testing.T) {
	const million = 1000000
	for _, b := range []string{"x", "0", "1", "9", "\xff", "\t", "list", "list\t"} {
		long := strings.Repeat(b, million/len(b))
		play(t, said{long, "what"}, said{"new 1 4", "ok"}, said{long, "what"}, said{"find " + long, "what"}, said{"find 0" + long, "what"}, said{"list " + long, "what"}, said{"list", "end"})
	}
	blanks := strings.Repeat(" ", million)
	play(t, said{blanks, ""}, said{"new" + blanks + "1" + blanks + "4", "ok"}, said{blanks + "list" + blanks, "end"}, said{strings.Repeat("list ", million/5), "what"}, said{strings.Repeat("0 ", million/2), "what"})
}

// TestManyDo: however often a Desk is asked, also of what is nothing.
func TestManyDo(t *testing.T) {
	d := desk.New()
	for i := range 20000 {
		tells(t, d, "what\nok\nback\nmap 5 0 9 1\nend\nno 1\nwhat\n", "find 5", "new 1 4", "map 5 0 9 1", "list", "new 1 0", "calm")
		faults(t, d, api.ErrLine, i%3, []string{"new 1 4", "new 1 4", "new 1 4\n"}[2-i%3:]...)
	}
}
