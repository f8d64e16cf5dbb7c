package walker_test

import (
	"testing"

	"wayleave/api"
	"wayleave/frames"
	"wayleave/table"
	"wayleave/walker"
)

// roots are frames of a memory of four, and such as are none.
var roots = append([]int{0, 1, 3, 4, 127, 128}, farOff...)

func TestNew(t *testing.T) {
	m := wayTo(5, 0, leaf(0, 9, 7, 0))
	for _, root := range roots {
		f := m.lay(t)
		mustBeOff(t, walker.New(root), f)
		mustBe(t, f, m)
	}
}

// The document's example: of the page 5 three words are read, the leaf is read, and then marked.
func TestFiveSteps(t *testing.T) {
	f, _ := frames.New(4)
	root := f.Take()
	if code := table.Insert(f, root, api.Map{Page: 5, Frame: 9, Rights: 3}); code != 0 {
		t.Fatalf("Insert: %d", code)
	}
	k := walker.New(root)
	mustBegin(t, k, api.Access{Page: 5, User: true}, 0)
	mustGo(t, k, f, 4)
	mustStep(t, k, f, done(5, 0, 9, 3, false))
	mustBeOff(t, k, f)
	_, e, _ := table.Find(f, root, 5)
	if want := (api.Entry{There: true, Leaf: true, Rights: 3, Used: true, Frame: 9}); e != want {
		t.Fatalf("the leaf is %v, want %v", e, want)
	}
}

func TestBegin(t *testing.T) {
	for _, root := range roots {
		for _, p := range somePages {
			for _, a := range accesses(p) {
				k := walker.New(root)
				mustBegin(t, k, a, 0)
				mustBeOn(t, k, a)
			}
		}
	}
}

// Of what is no access the code is told that page.CheckAccess tells, ahead of ErrBusy, and nothing begins or ends.
func TestBeginOfNoAccess(t *testing.T) {
	m := wayTo(5, 0, leaf(0, 9, 7, 0))
	f := m.lay(t)
	a := api.Access{Page: 5, Kind: api.Run, User: true}
	for code, wrong := range noAccesses() {
		for _, x := range wrong {
			k := walker.New(0)
			mustBegin(t, k, x, code)
			mustBeOff(t, k, f)
			for steps := range 5 {
				k := begun(t, f, a, steps)
				mustBegin(t, k, x, code)
				mustBeOn(t, k, a)
			}
		}
	}
	mustBe(t, f, m)
}

// On its way it is busy, at each step, and goes on as if it had not been asked.
func TestBeginTwice(t *testing.T) {
	was := wayTo(5, 0, leaf(0, 9, 7, 0))
	a := api.Access{Page: 5, Kind: api.Write, User: true}
	others := append(accesses(5), accesses(0)...)
	others = append(others, accesses(last)...)
	for steps := range 5 {
		for _, x := range others {
			f := was.lay(t)
			k := begun(t, f, a, steps)
			mustBegin(t, k, x, api.ErrBusy)
			mustBeOn(t, k, a)
			mustHold(t, f, was)
			mustGo(t, k, f, 4-steps)
			mustStep(t, k, f, done(5, 0, 9, 7, true))
			mustBeOff(t, k, f)
			mustBe(t, f, was.with(5, 0, leaf(0, 9, 7, used|dirty)))
		}
	}
}

// A walk that has ended, however it did, may begin again, at the root.
func TestBeginBehindAnEnd(t *testing.T) {
	const p, other = 645, 3000
	for _, c := range []struct {
		word  uint64
		steps int
		end   walker.Result
	}{
		{0, 2, notMapped},
		{leaf(1, 64, 6, 0), 2, notAllowed},
		{leaf(1, 64, 7, used|dirty), 2, done(p, 1, 64, 7, true)},
		{leaf(1, 64, 7, used), 3, done(p, 1, 64, 7, true)},
	} {
		m := wayTo(p, 1, c.word)
		m.words[0][place(other, top)] = 0
		f := m.lay(t)
		k := walker.New(0)
		for range 2 {
			mustBegin(t, k, api.Access{Page: p, Kind: api.Write}, 0)
			mustGo(t, k, f, c.steps)
			mustStep(t, k, f, c.end)
			mustBeOff(t, k, f)
			mustBegin(t, k, api.Access{Page: other, User: true}, 0)
			mustBeOn(t, k, api.Access{Page: other, User: true})
			mustStep(t, k, f, notMapped)
			mustBeOff(t, k, f)
			// The second time the leaf has its marks.
			c.steps = 2
		}
	}
}

// The access of nothing but noughts is one: Access does not tell whether it is on its way.
func TestAccessOfNoughts(t *testing.T) {
	f := wayTo(0, 0, leaf(0, 9, 0, used)).lay(t)
	k := walker.New(0)
	mustBegin(t, k, api.Access{}, 0)
	for range 3 {
		mustBeOn(t, k, api.Access{})
		mustBegin(t, k, api.Access{}, api.ErrBusy)
		mustStep(t, k, f, going)
	}
	mustBeOn(t, k, api.Access{})
	mustStep(t, k, f, done(0, 0, 9, 0, false))
	mustBeOff(t, k, f)
}

// Again at each step of a way: all steps from the root on are to be gone again.
func TestAgain(t *testing.T) {
	for level := range top {
		for _, p := range somePages {
			was := wayTo(p, level, leaf(level, 64, 7, 0))
			a := api.Access{Page: p, Kind: api.Write}
			for steps := range top - level + 2 {
				for times := 1; times <= 2; times++ {
					f := was.lay(t)
					k := begun(t, f, a, steps)
					for range times {
						k.Again()
					}
					mustBeOn(t, k, a)
					mustHold(t, f, was)
					mustGo(t, k, f, top-level+1)
					mustHold(t, f, was)
					mustStep(t, k, f, done(p, level, 64, 7, true))
					mustBeOff(t, k, f)
					mustBe(t, f, was.with(p, level, leaf(level, 64, 7, used|dirty)))
				}
			}
		}
	}
}

// What was read is forgotten by Again: the way is what the words say now.
func TestAgainOnAnotherWay(t *testing.T) {
	const p = 1234
	was := wayTo(p, 0, leaf(0, 9, 7, 0))
	for steps := range 5 {
		f := was.lay(t)
		k := begun(t, f, api.Access{Page: p}, steps)
		k.Again()
		mustStore(t, f, 0, place(p, top), 0)
		mustStep(t, k, f, notMapped)
		mustBeOff(t, k, f)
		mustBe(t, f, was.with(p, top, 0))
	}
}

// Behind a code Again leads back to the root, too.
func TestAgainBehindACode(t *testing.T) {
	const p = 1234
	was := wayTo(p, 0, leaf(0, 9, 7, 0))
	for steps := 1; steps < 5; steps++ {
		f := was.lay(t)
		k := begun(t, f, api.Access{Page: p}, steps)
		low := min(steps, top)
		words := mustGive(t, f, low)
		mustNotStep(t, k, f, api.ErrFree)
		k.Again()
		mustGo(t, k, f, low)
		mustNotStep(t, k, f, api.ErrFree)
		mustTake(t, f, low, words)
		mustGo(t, k, f, 4-low)
		mustStep(t, k, f, done(p, 0, 9, 7, false))
		mustBe(t, f, was.with(p, 0, leaf(0, 9, 7, used)))
	}
}

// Where there is no way, Again begins none.
func TestAgainOffTheWay(t *testing.T) {
	m := wayTo(5, 0, leaf(0, 9, 0, used))
	f := m.lay(t)
	k := walker.New(0)
	for range 2 {
		k.Again()
		mustBeOff(t, k, f)
		k.Again()
		mustBegin(t, k, api.Access{Page: 5}, 0)
		mustGo(t, k, f, 3)
		mustStep(t, k, f, done(5, 0, 9, 0, false))
	}
	mustBe(t, f, m)
}

// Two walks have nothing to do with each other but by the words.
func TestTwoWalks(t *testing.T) {
	one, two := wayTo(5, 0, leaf(0, 9, 7, 0)), wayTo(645, 1, leaf(1, 64, 7, 0))
	f, g := one.lay(t), two.lay(t)
	a, b := api.Access{Page: 5, Kind: api.Write}, api.Access{Page: 645, Kind: api.Run}
	for ahead := range 5 {
		j, k := begun(t, f, a, ahead), walker.New(0)
		mustBeOff(t, k, g)
		mustBegin(t, k, b, 0)
		mustGo(t, k, g, 2)
		mustBeOn(t, j, a)
		mustBeOn(t, k, b)
		k.Again()
		mustBegin(t, j, b, api.ErrBusy)
		mustGo(t, j, f, 4-ahead)
		mustStep(t, j, f, done(5, 0, 9, 7, true))
		mustBeOn(t, k, b)
		mustGo(t, k, g, 3)
		mustStep(t, k, g, done(645, 1, 64, 7, false))
		mustBeOff(t, j, f)
		mustBeOff(t, k, g)
		mustHold(t, f, one.with(5, 0, leaf(0, 9, 7, used|dirty)))
		mustHold(t, g, two.with(645, 1, leaf(1, 64, 7, used)))
		f, g = one.lay(t), two.lay(t)
	}
}

// A walk goes by what it is asked and by the frames that it is handed, whichever they are.
func TestOtherFrames(t *testing.T) {
	const p = 645
	one, two := wayTo(p, 0, leaf(0, 9, 7, 0)), wayTo(p, 0, leaf(0, 9, 7, 0))
	f, g := one.lay(t), two.lay(t)
	k := begun(t, f, api.Access{Page: p, Kind: api.Write}, 2)
	mustGo(t, k, g, 2)
	mustStep(t, k, f, done(p, 0, 9, 7, true))
	mustBe(t, f, one.with(p, 0, leaf(0, 9, 7, used|dirty)))
	mustBe(t, g, two)
}
