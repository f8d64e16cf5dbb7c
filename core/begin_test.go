package core_test

import (
	"testing"

	"wayleave/api"
	"wayleave/core"
	"wayleave/frames"
	"wayleave/table"
	"wayleave/tlb"
)

// roots are frames of a memory of four, and such as are none.
var roots = append([]int{0, 1, 3, 4, 127, 128}, farOff...)

func TestNew(t *testing.T) {
	for _, root := range roots {
		c := core.New(root)
		mustBeIdle(t, c)
		mustKeep(t, c)
		mustEvict(t, c, false)
		for p := range api.Pages {
			mustFind(t, c, p, tlb.Line{}, false)
		}
	}
}

// The document's example: an access has five steps; behind unmap it is answered by what is kept, till the core was told.
func TestFiveStepsThenNone(t *testing.T) {
	f, _ := frames.New(4)
	root := f.Take()
	m := api.Map{Page: 5, Frame: 9, Rights: 3}
	if code := table.Insert(f, root, m); code != 0 {
		t.Fatalf("Insert: %d", code)
	}
	c := core.New(root)
	a := api.Access{Page: 5, User: true}
	mustBegin(t, c, a, going)
	mustGo(t, c, f, 4)
	mustStep(t, c, f, done(9, 3))
	mustKeep(t, c, tlb.Line{M: m})
	mustBegin(t, c, a, done(9, 3))
	if _, _, code := table.Remove(f, root, 5); code != 0 {
		t.Fatalf("Remove: %d", code)
	}
	mustBegin(t, c, a, done(9, 3))
	c.Told(m)
	mustBegin(t, c, a, going)
	mustStep(t, c, f, notMapped)
	mustKeep(t, c)
}

// Where nothing is kept, each access begins its walk, whatever the root is.
func TestBeginWhereNothingIsKept(t *testing.T) {
	for _, root := range roots {
		for _, p := range somePages {
			for _, a := range accesses(p) {
				c := core.New(root)
				mustBegin(t, c, a, going)
				mustBeBusy(t, c, a)
				mustKeep(t, c)
			}
		}
	}
}

// A line of each size, of all rights, Dirty or not, asked for its first page, its last one and one between, in every way.
func TestBeginByALine(t *testing.T) {
	for size := range 3 {
		for _, p := range []int{0, 640, last} {
			for rights := range 8 {
				for _, isDirty := range []bool{false, true} {
					l := line(p, size, 128*64, rights, isDirty)
					for _, asked := range []int{l.M.Page, l.M.Page + spans[size]/2, l.M.Page + spans[size] - 1} {
						for _, a := range accesses(asked) {
							mustBeginByLine(t, l, a)
						}
					}
				}
			}
		}
	}
}

// mustBeginByLine fails unless an access by a line ends at once, or, if it is a Write that must leave its mark, goes on its way.
func mustBeginByLine(t *testing.T, l tlb.Line, a api.Access) {
	t.Helper()
	other := line(2000, api.Small, 77, 0, true)
	c := keeping(t, other, l)
	if a.Kind == api.Write && !l.Dirty && lets(l.M.Rights, a) {
		mustBegin(t, c, a, going)
		mustBeBusy(t, c, a)
		mustKeep(t, c, other, l)
		return
	}
	for range 2 {
		mustBegin(t, c, a, byLine(l, a))
		mustBeIdle(t, c)
		mustKeep(t, c, other, l)
	}
}

// The lines of other pages are no use, be they next to it.
func TestBeginBesideLines(t *testing.T) {
	for size := range 3 {
		l := line(640, size, 64, 7, true)
		for _, p := range []int{0, l.M.Page - 1, l.M.Page + spans[size], l.M.Page + 1024, last} {
			for _, a := range accesses(p) {
				c := keeping(t, l)
				mustBegin(t, c, a, going)
				mustBeBusy(t, c, a)
				mustKeep(t, c, l)
			}
		}
	}
}

// Each of as many lines as may be kept ends what is asked of its pages, in any order, and is no younger for it.
func TestBeginWhereMaxAreKept(t *testing.T) {
	lines := []tlb.Line{
		line(64, api.Huge, 64, 7, true), line(128, api.Large, 128, 6, true), line(136, api.Small, 9, 0, false),
		line(137, api.Small, 10, 5, true), line(56, api.Large, 256, 1, true), line(192, api.Huge, 0, 3, true),
	}
	if len(lines) != api.MaxTLB {
		t.Fatalf("%d lines, want %d", len(lines), api.MaxTLB)
	}
	c := keeping(t, lines...)
	for i := range 5 * len(lines) {
		l := lines[i*5%len(lines)]
		for _, p := range []int{l.M.Page, l.M.Page + spans[l.M.Size] - 1} {
			for _, a := range accesses(p) {
				mustBegin(t, c, a, byLine(l, a))
			}
		}
	}
	mustKeep(t, c, lines...)
	for _, p := range []int{0, 55, 138, 191, 256, last} {
		for _, a := range accesses(p) {
			mustBegin(t, keeping(t, lines...), a, going)
		}
	}
	for i := range lines {
		mustKeep(t, c, lines[i:]...)
		mustEvict(t, c, true)
	}
	mustBegin(t, c, api.Access{Page: 64}, going)
}

// What is kept is used without a look, whatever the words say by now.
func TestLineIsUsedWithoutALook(t *testing.T) {
	const p = 645
	was := wayTo(p, 1, leaf(1, 64, 7, used|dirty))
	f := was.lay(t)
	c := begun(t, f, api.Access{Page: p}, 2)
	mustStep(t, c, f, done(64+p%8, 7))
	for k := range api.Levels {
		mustGive(t, f, k)
	}
	for _, a := range accesses(p) {
		mustBegin(t, c, a, done(64+p%8, 7))
	}
	mustKeep(t, c, line(p, 1, 64, 7, true))
}

// Of what is no access the code is told that page.CheckAccess tells, with nothing on its way, and all is as it was.
func TestBeginOfNoAccess(t *testing.T) {
	lines := []tlb.Line{line(5, api.Small, 9, 7, true), line(0, api.Small, 8, 7, false), line(last, api.Huge, 64, 7, true)}
	empty, some := core.New(0), keeping(t, lines...)
	for code, wrong := range noAccesses() {
		for _, a := range wrong {
			mustBegin(t, empty, a, fails(code))
			mustBegin(t, some, a, fails(code))
			mustBeIdle(t, empty)
			mustBeIdle(t, some)
		}
	}
	mustKeep(t, empty)
	mustKeep(t, some, lines...)
}

// With an access on its way that code is told ahead of ErrBusy, at each step, and the walk goes on as if it had not been asked.
func TestBeginOfNoAccessOnTheWay(t *testing.T) {
	const p = 1234
	was := wayTo(p, 0, leaf(0, 9, 7, 0))
	lines := []tlb.Line{line(5, api.Small, 9, 7, true), line(0, api.Small, 8, 7, false)}
	a := api.Access{Page: p, Kind: api.Write, User: true}
	for steps := range 5 {
		f := was.lay(t)
		c := begun(t, f, a, steps, lines...)
		for code, wrong := range noAccesses() {
			for _, x := range wrong {
				mustBegin(t, c, x, fails(code))
				mustBeBusy(t, c, a)
			}
		}
		mustKeep(t, c, lines...)
		mustHold(t, f, was)
		mustGo(t, c, f, 4-steps)
		mustStep(t, c, f, done(9, 7))
		mustBe(t, f, was.with(p, 0, leaf(0, 9, 7, used|dirty)))
	}
}

// With an access on its way the core is busy, for pages of which a line is kept, too, and goes on as if it had not been asked.
func TestBeginTwice(t *testing.T) {
	const p = 1234
	was := wayTo(p, 0, leaf(0, 9, 7, 0))
	lines := []tlb.Line{line(5, api.Small, 9, 7, true), line(640, api.Huge, 64, 0, false)}
	a := api.Access{Page: p, Kind: api.Write}
	var others []api.Access
	for _, x := range []int{0, 5, 640, 703, p, last} {
		others = append(others, accesses(x)...)
	}
	for steps := range 5 {
		for _, x := range others {
			f := was.lay(t)
			c := begun(t, f, a, steps, lines...)
			for range 2 {
				mustBegin(t, c, x, fails(api.ErrBusy))
				mustBeBusy(t, c, a)
			}
			mustKeep(t, c, lines...)
			mustHold(t, f, was)
			mustGo(t, c, f, 4-steps)
			mustStep(t, c, f, done(9, 7))
			mustBeIdle(t, c)
			mustKeep(t, c, append(lines[:2:2], line(p, 0, 9, 7, true))...)
			mustBe(t, f, was.with(p, 0, leaf(0, 9, 7, used|dirty)))
		}
	}
}

// The access of nothing but noughts is one: Access does not tell whether it is on its way.
func TestAccessOfNoughts(t *testing.T) {
	f := wayTo(0, 0, leaf(0, 9, 0, used)).lay(t)
	c := core.New(0)
	mustBegin(t, c, api.Access{}, going)
	for range 3 {
		mustBeBusy(t, c, api.Access{})
		mustBegin(t, c, api.Access{}, fails(api.ErrBusy))
		mustGo(t, c, f, 1)
	}
	mustBeBusy(t, c, api.Access{})
	mustStep(t, c, f, done(9, 0))
	mustBeIdle(t, c)
	mustBegin(t, c, api.Access{}, done(9, 0))
	mustBeIdle(t, c)
}
