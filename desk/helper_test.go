package desk_test

import (
	"fmt"
	"strings"
	"testing"

	"wayleave/api"
	"wayleave/desk"
)

// said is a line, and what it is to tell, the newline of the last thing told left out; "": it tells nothing.
type said struct{ line, told string }

// again is a line that is said several times, and tells the same.
func again(n int, line, told string) []said {
	l := make([]said, n)
	for i := range l {
		l[i] = said{line, told}
	}
	return l
}

// talk puts lines one behind the other.
func talk(parts ...any) []said {
	var all []said
	for _, part := range parts {
		switch x := part.(type) {
		case said:
			all = append(all, x)
		case []said:
			all = append(all, x...)
		default:
			panic("neither a line nor a list of them")
		}
	}
	return all
}

// text is what is told, with its newline.
func (s said) text() string {
	if s.told == "" {
		return ""
	}
	return s.told + "\n"
}

// linesOf are the lines alone.
func linesOf(l []said) []string {
	var lines []string
	for _, s := range l {
		lines = append(lines, s.line)
	}
	return lines
}

// toldBy is all that lines are to tell.
func toldBy(l []said) string {
	var all strings.Builder
	for _, s := range l {
		all.WriteString(s.text())
	}
	return all.String()
}

// do says lines, of which there is to be no fault.
func do(t *testing.T, d *desk.Desk, lines ...string) string {
	t.Helper()
	got, fault := d.Do(lines)
	if fault != (api.Fault{}) {
		t.Fatalf("Do of %q: %v, want no fault", lines, fault)
	}
	return got
}

// tells says lines, and looks at all that is told.
func tells(t *testing.T, d *desk.Desk, want string, lines ...string) {
	t.Helper()
	if got := do(t, d, lines...); got != want {
		t.Fatalf("Do of %q: %q, want %q", lines, got, want)
	}
}

// play says lines one by one to a new Desk, and all of them at once to another one.
func play(t *testing.T, parts ...any) {
	t.Helper()
	l := talk(parts...)
	d := desk.New()
	for i, s := range l {
		if got := do(t, d, s.line); got != s.text() {
			t.Fatalf("line %d, %q, behind %q: %q, want %q", i, s.line, linesOf(l[:i]), got, s.text())
		}
	}
	tells(t, desk.New(), toldBy(l), linesOf(l)...)
}

// faults says lines of which there is to be a fault.
func faults(t *testing.T, d *desk.Desk, code, at int, lines ...string) {
	t.Helper()
	got, fault := d.Do(lines)
	if got != "" || fault != (api.Fault{Code: code, At: at}) {
		t.Fatalf("Do of %d lines: %q, %v, want no text, {%d %d}", len(lines), got, fault, code, at)
	}
}

// scene is a Desk to which lines were said.
func scene(t *testing.T, lines ...string) *desk.Desk {
	t.Helper()
	d := desk.New()
	do(t, d, lines...)
	return d
}

// sight asks a Desk for all that may be seen of its Watch without a change of it.
func sight(t *testing.T, d *desk.Desk) string {
	t.Helper()
	lines := []string{"list"}
	for k := range api.MaxCores + 1 {
		lines = append(lines, fmt.Sprint("kept ", k))
	}
	for _, p := range somePages {
		lines = append(lines, fmt.Sprint("find ", p))
	}
	return do(t, d, lines...)
}

// somePages are the first and the last one, those at the edges of what entries of each level have, and some that are none.
var somePages = []int{0, 4, 5, 6, 7, 8, 13, 15, 16, 63, 64, 127, 128, 191, 192, 511, 512, 645, 700, 1500, 4031, 4032, 4095, 4096, 100000000}
