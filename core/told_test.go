package core_test

import (
	"math"
	"slices"
	"testing"

	"wayleave/api"
	"wayleave/core"
	"wayleave/tlb"
)

// neighbours are lines of each size, some of them side by side; as many as may be kept.
var neighbours = []tlb.Line{
	line(64, api.Small, 1, 7, true), line(128, api.Huge, 64, 7, false), line(72, api.Large, 8, 3, true),
	line(127, api.Small, 2, 0, false), line(4088, api.Large, 16, 7, true), line(0, api.Small, 0, 0, false),
}

// toldOf tells mappings of which a core may be told: those that are kept, those that meet some, one or none of the neighbours, and such as are none.
func toldOf() []api.Map {
	var all []api.Map
	for _, l := range neighbours {
		m := l.M
		all = append(all, m, api.Map{Page: m.Page, Size: m.Size, Frame: 192, Rights: 5})
		for _, p := range []int{m.Page - 1, m.Page, m.Page + spans[m.Size] - 1, m.Page + spans[m.Size]} {
			for size := range 4 {
				// Not all of them are mappings: some pages are no multiples, some are none.
				all = append(all, api.Map{Page: p, Size: size}, api.Map{Page: p - p%spans[size], Size: size})
			}
		}
	}
	all = append(all, api.Map{Page: 640, Size: api.Huge}, api.Map{Page: 60, Size: api.Large}, api.Map{Page: 100, Size: api.Huge})
	all = append(all, api.Map{Page: 64, Frame: -1}, api.Map{Page: 72, Rights: 8}, api.Map{Page: 127, Frame: math.MaxInt, Rights: math.MinInt})
	for _, n := range farOff {
		all = append(all, api.Map{Size: n}, api.Map{Page: 130, Size: n}, api.Map{Page: n}, api.Map{Page: n, Size: api.Huge}, api.Map{Page: n, Size: n, Frame: n, Rights: n})
	}
	return all
}

// left tells which lines stay when a core is told of a mapping.
func left(lines []tlb.Line, m api.Map) []tlb.Line {
	return slices.DeleteFunc(slices.Clone(lines), func(l tlb.Line) bool { return meets(l.M, m) })
}

// What toldOf tells is to be of all kinds: else the tests by it would say less than they seem to.
func TestToldOfIsOfAllKinds(t *testing.T) {
	seen := map[int]int{}
	for _, m := range toldOf() {
		seen[len(neighbours)-len(left(neighbours, m))]++
	}
	for _, went := range []int{0, 1, 3} {
		if seen[went] == 0 {
			t.Errorf("no mapping takes %d lines: %v", went, seen)
		}
	}
}

// Told with nothing on its way: the lines that meet the mapping go, the others stay in their order, and no walk begins.
func TestTold(t *testing.T) {
	for _, m := range toldOf() {
		c := keeping(t, neighbours...)
		want := left(neighbours, m)
		for range 2 {
			c.Told(m)
			mustKeep(t, c, want...)
			mustBeIdle(t, c)
		}
		for _, l := range neighbours {
			a := api.Access{Page: l.M.Page}
			if slices.Contains(want, l) {
				mustBegin(t, c, a, byLine(l, a))
			}
		}
		for _, l := range neighbours {
			if !slices.Contains(want, l) {
				mustBegin(t, c, api.Access{Page: l.M.Page}, going)
				break
			}
		}
		empty := core.New(0)
		empty.Told(m)
		mustKeep(t, empty)
		mustBeIdle(t, empty)
	}
}

// Told of a mapping by each of its pages: a line of more pages goes as a whole, lines of fewer ones go together.
func TestToldOfPartsAndWholes(t *testing.T) {
	for size := range 3 {
		l := line(640, size, 64, 7, true)
		beside := []tlb.Line{line(639, api.Small, 1, 7, true), line(704, api.Small, 2, 7, true)}
		for p := l.M.Page; p < l.M.Page+spans[size]; p++ {
			c := keeping(t, beside[0], l, beside[1])
			c.Told(api.Map{Page: p})
			mustKeep(t, c, beside...)
		}
	}
	small := row(640, 4)
	c := keeping(t, append([]tlb.Line{line(639, api.Small, 1, 7, true)}, small...)...)
	c.Told(api.Map{Page: 640, Size: api.Large, Frame: 8})
	mustKeep(t, c, line(639, api.Small, 1, 7, true))
}

// Told with a walk on its way, that many steps from the root: it begins again there, whatever it was told of, and goes on for the same access.
func TestToldOnTheWay(t *testing.T) {
	const p = 1234
	was := wayTo(p, 0, leaf(0, 9, 7, 0))
	a := api.Access{Page: p, Kind: api.Write, User: true}
	for _, m := range append(toldOf(), api.Map{Page: p}, api.Map{Page: 1216, Size: api.Huge}, api.Map{Page: p + 1}) {
		for steps := range 5 {
			f := was.lay(t)
			c := begun(t, f, a, steps, neighbours...)
			want := left(neighbours, m)
			c.Told(m)
			mustBeBusy(t, c, a)
			mustBegin(t, c, a, fails(api.ErrBusy))
			mustKeep(t, c, want...)
			mustHold(t, f, was)
			mustGo(t, c, f, 4)
			mustHold(t, f, was)
			mustStep(t, c, f, done(9, 7))
			mustBeIdle(t, c)
			all := append(want, line(p, 0, 9, 7, true))
			mustKeep(t, c, all[max(0, len(all)-api.MaxTLB):]...)
			mustBe(t, f, was.with(p, 0, leaf(0, 9, 7, used|dirty)))
		}
	}
}

// What the walk has read is forgotten when it is told: its way is what the words say now.
func TestToldOnAnotherWay(t *testing.T) {
	const p = 1234
	was := wayTo(p, 0, leaf(0, 9, 7, 0))
	for _, m := range []api.Map{{Page: p}, {Page: 5}, {Size: -1}} {
		for steps := range 5 {
			f := was.lay(t)
			c := begun(t, f, api.Access{Page: p}, steps)
			c.Told(m)
			mustStore(t, f, 0, place(p, top), 0)
			mustStep(t, c, f, notMapped)
			mustBeIdle(t, c)
			mustKeep(t, c)
			mustBe(t, f, was.with(p, top, 0))
		}
	}
}

// Told behind a code leads the walk back to the root, too.
func TestToldBehindACode(t *testing.T) {
	const p = 1234
	was := wayTo(p, 0, leaf(0, 9, 7, 0))
	for steps := 1; steps < 5; steps++ {
		f := was.lay(t)
		c := begun(t, f, api.Access{Page: p}, steps)
		low := min(steps, top)
		words := mustGive(t, f, low)
		mustNotStep(t, c, f, api.ErrFree)
		c.Told(api.Map{Page: p})
		mustGo(t, c, f, low)
		mustNotStep(t, c, f, api.ErrFree)
		mustTake(t, f, low, words)
		mustGo(t, c, f, 4-low)
		mustStep(t, c, f, done(9, 7))
		mustBe(t, f, was.with(p, 0, leaf(0, 9, 7, used)))
	}
}

// A Write on its way by a line that is not Dirty, when the core is told of it: the line goes, the walk goes on from the root.
func TestToldOfTheLineThatIsWritten(t *testing.T) {
	const p = 640
	clean := line(p, 1, 64, 3, false)
	a := api.Access{Page: p, Kind: api.Write}
	for steps := range 4 {
		was := wayTo(p, 1, leaf(1, 64, 3, used))
		f := was.lay(t)
		c := begun(t, f, a, steps, clean)
		c.Told(clean.M)
		mustKeep(t, c)
		mustStore(t, f, 2, place(p, 1), leaf(1, 64, 2, used))
		mustGo(t, c, f, 2)
		mustStep(t, c, f, notAllowed)
		mustKeep(t, c)
		mustBegin(t, c, api.Access{Page: p}, going)
	}
}

func TestEvict(t *testing.T) {
	c := core.New(0)
	mustEvict(t, c, false)
	c = keeping(t, neighbours...)
	for i := range neighbours {
		mustKeep(t, c, neighbours[i:]...)
		mustEvict(t, c, true)
		mustBeIdle(t, c)
	}
	mustKeep(t, c)
	mustEvict(t, c, false)
	mustWalk(t, c, neighbours[2])
	mustKeep(t, c, neighbours[2])
	mustEvict(t, c, true)
	mustEvict(t, c, false)
	mustKeep(t, c)
}

// Evict has nothing to do with the walk: it goes on where it was.
func TestEvictOnTheWay(t *testing.T) {
	const p = 1234
	was := wayTo(p, 0, leaf(0, 9, 7, 0))
	clean := line(p, 0, 9, 7, false)
	a := api.Access{Page: p, Kind: api.Write}
	for _, lines := range [][]tlb.Line{nil, {clean}, {clean, neighbours[0]}, {neighbours[0], clean}, neighbours} {
		for steps := range 5 {
			f := was.lay(t)
			c := begun(t, f, a, steps, lines...)
			mustEvict(t, c, len(lines) > 0)
			mustBeBusy(t, c, a)
			rest := lines[min(1, len(lines)):]
			mustKeep(t, c, rest...)
			mustHold(t, f, was)
			mustGo(t, c, f, 4-steps)
			mustStep(t, c, f, done(9, 7))
			mustKeep(t, c, append(left(rest, clean.M), line(p, 0, 9, 7, true))...)
			mustBe(t, f, was.with(p, 0, leaf(0, 9, 7, used|dirty)))
		}
	}
}

// What List tells is new memory: changes of it change nothing, and it does not change.
func TestListIsNewMemory(t *testing.T) {
	c := keeping(t, neighbours...)
	one, two := c.List(), c.List()
	for i := range one {
		one[i] = line(9, api.Small, 9, 9, true)
	}
	_ = append(one[:1], line(10, api.Small, 9, 9, true))
	mustSameList(t, "another list", two, neighbours)
	mustKeep(t, c, neighbours...)

	mustWalk(t, c, line(2000, api.Small, 3, 7, false))
	mustSameList(t, "a list of before a walk", two, neighbours)
	was := c.List()
	c.Told(neighbours[2].M)
	mustEvict(t, c, true)
	mustWalk(t, c, line(2001, api.Small, 4, 7, false))
	mustSameList(t, "a list of before Told", was, append(slices.Clone(neighbours[1:]), line(2000, api.Small, 3, 7, false)))
}

// Two cores have nothing to do with each other: neither what is kept nor what is on its way.
func TestTwoCores(t *testing.T) {
	was := wayTo(1234, 0, leaf(0, 9, 7, 0))
	a := api.Access{Page: 1234, Kind: api.Write}
	for steps := range 5 {
		f := was.lay(t)
		busy := begun(t, f, a, steps, neighbours[:3]...)
		idle := keeping(t, neighbours[2:]...)
		mustBeIdle(t, idle)
		mustBegin(t, idle, api.Access{Page: 4088}, done(16, 7))
		idle.Told(neighbours[2].M)
		mustEvict(t, idle, true)
		mustWalk(t, idle, line(1000, api.Small, 5, 7, true))
		idle.Told(api.Map{Page: 1234})
		mustBeBusy(t, busy, a)
		mustKeep(t, busy, neighbours[:3]...)
		mustKeep(t, idle, neighbours[4], neighbours[5], line(1000, api.Small, 5, 7, true))
		mustGo(t, busy, f, 4-steps)
		mustStep(t, busy, f, done(9, 7))
		mustKeep(t, idle, neighbours[4], neighbours[5], line(1000, api.Small, 5, 7, true))
		mustKeep(t, busy, append(slices.Clone(neighbours[:3]), line(1234, 0, 9, 7, true))...)
		mustBegin(t, idle, a, going)
	}
}

// By the words they have: a mark by the one is another word for the other, whose walk begins again, and finds the leaf Dirty.
func TestTwoCoresMeetByTheWords(t *testing.T) {
	const p = 645
	was := wayTo(p, 1, leaf(1, 64, 7, 0))
	f := was.lay(t)
	one := begun(t, f, api.Access{Page: p, Kind: api.Write}, 3)
	two := begun(t, f, api.Access{Page: p + 1}, 3)
	mustStep(t, one, f, done(64+p%8, 7))
	mustGo(t, two, f, 3)
	mustStep(t, two, f, done(64+p%8+1, 7))
	l := line(p, 1, 64, 7, true)
	mustKeep(t, one, l)
	mustKeep(t, two, l)
	mustBegin(t, two, api.Access{Page: p, Kind: api.Write}, done(64+p%8, 7))
	mustBe(t, f, was.with(p, 1, leaf(1, 64, 7, used|dirty)))
}

// A core goes by what it is asked and by the frames that it is handed, whichever they are.
func TestOtherFrames(t *testing.T) {
	const p = 645
	one, two := wayTo(p, 0, leaf(0, 9, 7, 0)), wayTo(p, 0, leaf(0, 9, 7, 0))
	f, g := one.lay(t), two.lay(t)
	c := begun(t, f, api.Access{Page: p, Kind: api.Write}, 2)
	mustGo(t, c, g, 2)
	mustStep(t, c, f, done(9, 7))
	mustKeep(t, c, line(p, 0, 9, 7, true))
	mustBe(t, f, one.with(p, 0, leaf(0, 9, 7, used|dirty)))
	mustBe(t, g, two)
}
