package desk_test

import (
	"fmt"
	"math/big"
	"regexp"
	"strings"
	"testing"

	"wayleave/api"
	"wayleave/desk"
	"wayleave/watch"
)

// twin tells what a Desk is to tell: each kind of line is a pattern, and a Watch is asked for the same.
type twin struct {
	w *watch.Watch
}

// row is one kind of line, and what a Watch tells of its numbers.
type row struct {
	line *regexp.Regexp
	tell func(w *watch.Watch, n []int) []string
}

// pattern tells which lines are of a kind: its word, then so many numbers, between blanks.
func pattern(word string, numbers int) *regexp.Regexp {
	return regexp.MustCompile(`\A *` + word + strings.Repeat(` +(0|[1-9][0-9]{0,9})`, numbers) + ` *\z`)
}

// stepRow is a kind of line that asks for a step.
func stepRow(word string, numbers int, step func(n []int) api.Step) row {
	return row{pattern(word, numbers), func(w *watch.Watch, n []int) []string {
		return []string{stepText(w.Do(step(n)))}
	}}
}

func stepText(e api.Event, fault api.Fault) string {
	answers := []string{api.Done: fmt.Sprintf("frame %d %d", e.Answer.Frame, e.Answer.Rights), api.NotMapped: "unmapped", api.NotAllowed: "forbidden"}
	if fault.Code != 0 {
		return fmt.Sprintf("no %d %d", fault.Code, fault.At)
	}
	if e.Code != 0 {
		return fmt.Sprintf("no %d", e.Code)
	}
	if e.Ended {
		return answers[e.Answer.End]
	}
	if e.Back {
		return "back"
	}
	return "ok"
}

func mapText(word string, m api.Map) string {
	return fmt.Sprintf("%s %d %d %d %d", word, m.Page, m.Size, m.Frame, m.Rights)
}

var zeroOrOne = map[bool]string{false: "0", true: "1"}

var rows = []row{
	stepRow("map", 4, func(n []int) api.Step {
		return api.Step{Kind: api.SMap, M: api.Map{Page: n[0], Size: n[1], Frame: n[2], Rights: n[3]}}
	}),
	stepRow("unmap", 1, func(n []int) api.Step { return api.Step{Kind: api.SUnmap, M: api.Map{Page: n[0]}} }),
	stepRow("protect", 2, func(n []int) api.Step { return api.Step{Kind: api.SProtect, M: api.Map{Page: n[0], Rights: n[1]}} }),
	stepRow("access", 4, func(n []int) api.Step {
		return api.Step{Kind: api.SAccess, Core: n[0], A: api.Access{Page: n[1], Kind: n[2], User: n[3] > 0}}
	}),
	stepRow("walk", 1, func(n []int) api.Step { return api.Step{Kind: api.SWalk, Core: n[0]} }),
	stepRow("ack", 1, func(n []int) api.Step { return api.Step{Kind: api.SAck, Core: n[0]} }),
	stepRow("evict", 1, func(n []int) api.Step { return api.Step{Kind: api.SEvict, Core: n[0]} }),
	{pattern("find", 1), func(w *watch.Watch, n []int) []string {
		m, e, code := w.Find(n[0])
		if code != 0 {
			return []string{fmt.Sprintf("no %d", code)}
		}
		return []string{mapText("map", m) + " " + zeroOrOne[e.Used] + " " + zeroOrOne[e.Dirty]}
	}},
	{pattern("kept", 1), func(w *watch.Watch, n []int) []string {
		var all []string
		for _, l := range w.Kept(n[0]) {
			all = append(all, mapText("line", l.M)+" "+zeroOrOne[l.Dirty])
		}
		return append(all, "end")
	}},
	{pattern("list", 0), func(w *watch.Watch, n []int) []string {
		var all []string
		for _, m := range w.List() {
			all = append(all, mapText("map", m))
		}
		return append(all, "end")
	}},
	{pattern("calm", 0), calmTexts},
}

// calmTexts lets cores look after what they were told, then walk, step by step.
func calmTexts(w *watch.Watch, _ []int) []string {
	var all []string
	for k := 0; k < w.Cores(); k++ {
		if w.Waits(k) {
			all = append(all, stepText(w.Do(api.Step{Kind: api.SAck, Core: k})))
		}
	}
	for k := 0; k < w.Cores(); {
		if _, on := w.On(k); !on {
			k++
			continue
		}
		all = append(all, stepText(w.Do(api.Step{Kind: api.SWalk, Core: k})))
	}
	return append(all, fmt.Sprintf("calm %d %d", w.Free(), len(w.Tables())))
}

// numbersIn tells the numbers that a pattern found; false: the line is not of that kind, or a number is too high.
func numbersIn(line string, kind *regexp.Regexp) ([]int, bool) {
	found := kind.FindStringSubmatch(line)
	if found == nil {
		return nil, false
	}
	var n []int
	for _, s := range found[1:] {
		x, _ := new(big.Int).SetString(s, 10)
		if x.Cmp(big.NewInt(1e8)) > 0 {
			return nil, false
		}
		n = append(n, int(x.Int64()))
	}
	return n, true
}

var newLine = pattern("new", 2)

// tell tells what a line is to tell.
func (w *twin) tell(line string) []string {
	if strings.Trim(line, " ") == "" {
		return nil
	}
	if n, ok := numbersIn(line, newLine); ok {
		var fault api.Fault
		w.w, fault = watch.New(n[0], n[1])
		if fault.Code != 0 {
			w.w = nil
			return []string{fmt.Sprintf("no %d", fault.Code)}
		}
		return []string{"ok"}
	}
	for _, r := range rows {
		if n, ok := numbersIn(line, r.line); ok && w.w != nil {
			return r.tell(w.w, n)
		}
	}
	return []string{"what"}
}

// pair is a Desk and its twin.
type pair struct {
	t *testing.T
	d *desk.Desk
	w *twin
}

func newPair(t *testing.T) *pair {
	return &pair{t, desk.New(), &twin{}}
}

// do says lines to both.
func (p *pair) do(lines ...string) {
	p.t.Helper()
	var want strings.Builder
	for _, line := range lines {
		for _, s := range p.w.tell(line) {
			want.WriteString(s + "\n")
		}
	}
	if got := do(p.t, p.d, lines...); got != want.String() {
		p.t.Fatalf("Do of %q: %q, want %q", lines, got, want.String())
	}
}
