package trace_test

import (
	"slices"
	"testing"

	"wayleave/api"
	"wayleave/space"
	"wayleave/tlb"
	"wayleave/watch"
)

// teller is what a Space tells of itself, and a Watch, too.
type teller interface {
	List() []api.Map
	Tables() []int
	Find(p int) (api.Map, api.Entry, int)
	Busy() bool
	Free() int
	Gone() int
	Kept(k int) []tlb.Line
	On(k int) (api.Access, bool)
	Waits(k int) bool
	Cores() int
}

// found is what Find tells.
type found struct {
	m    api.Map
	e    api.Entry
	code int
}

// onCore is what is told of a core.
type onCore struct {
	kept  []tlb.Line
	a     api.Access
	on    bool
	waits bool
}

func (c onCore) is(d onCore) bool {
	return slices.Equal(c.kept, d.kept) && c.a == d.a && c.on == d.on && c.waits == d.waits
}

// sight is all that a teller tells.
type sight struct {
	list              []api.Map
	tables            []int
	finds             []found // of somePages
	busy              bool
	free, gone, count int
	cores             []onCore
}

func look(s teller) sight {
	x := sight{list: s.List(), tables: s.Tables(), busy: s.Busy(), free: s.Free(), gone: s.Gone(), count: s.Cores()}
	for _, p := range somePages {
		m, e, code := s.Find(p)
		x.finds = append(x.finds, found{m, e, code})
	}
	for k := range s.Cores() {
		c := onCore{kept: s.Kept(k), waits: s.Waits(k)}
		c.a, c.on = s.On(k)
		x.cores = append(x.cores, c)
	}
	return x
}

func (x sight) is(y sight) bool {
	return slices.Equal(x.list, y.list) && slices.Equal(x.tables, y.tables) && slices.Equal(x.finds, y.finds) &&
		x.busy == y.busy && x.free == y.free && x.gone == y.gone && x.count == y.count && slices.EqualFunc(x.cores, y.cores, onCore.is)
}

func mustLookLike(t *testing.T, s teller, want sight) {
	t.Helper()
	if got := look(s); !got.is(want) {
		t.Fatalf("it is\n%v, want\n%v", got, want)
	}
}

// twins are a Watch, a Space of which the same is asked, and what is mapped.
type twins struct {
	n      int
	w      *watch.Watch
	s      *space.Space
	mapped mappings
	script []api.Step
	came   []api.Event // what each step of the script came to
}

func newTwins(t *testing.T, cores, n int) *twins {
	t.Helper()
	s, fault := space.New(cores, n)
	if s == nil || fault != (api.Fault{}) {
		t.Fatalf("space.New(%d, %d): %v, %v", cores, n, s, fault)
	}
	return &twins{n: n, w: mustNew(t, cores, n), s: s}
}

// reach tells twins that have a scene behind them.
func (x scene) reach(t *testing.T) *twins {
	t.Helper()
	y := newTwins(t, x.cores, x.n)
	for _, step := range x.steps {
		if e := y.do(t, step); e.Code != 0 {
			t.Fatalf("Do(%v): %v", step, e)
		}
	}
	return y
}

// do makes a step of both, and tells what it came to.
func (x *twins) do(t *testing.T, step api.Step) api.Event {
	t.Helper()
	e := x.s.Do(step)
	if got := mustDo(t, x.w, step); got != e {
		t.Fatalf("Do(%v): %v of the Watch, %v of the Space", step, got, e)
	}
	if e.Code == 0 {
		x.mapped = x.mapped.follow(step)
	}
	x.script, x.came = append(x.script, step), append(x.came, e)
	return e
}

// rest makes the steps of the Space by which it comes to rest, as the chapter says them, and tells them and what they came to.
func rest(t *testing.T, s *space.Space) ([]api.Step, []api.Event) {
	t.Helper()
	var all []api.Step
	var came []api.Event
	do := func(x api.Step) {
		all, came = append(all, x), append(came, s.Do(x))
	}
	for core := range s.Cores() {
		if s.Waits(core) {
			do(ack(core))
		}
	}
	for core := range s.Cores() {
		for count := 0; ; count++ {
			if _, on := s.On(core); !on {
				break
			}
			if count == 20 {
				t.Fatalf("the access of the core %d does not end", core)
			}
			do(walk(core))
		}
	}
	return all, came
}

// calm fails unless Calm of the Watch comes to what the Space's steps come to, and both are at rest then.
func (x *twins) calm(t *testing.T) []api.Event {
	t.Helper()
	all, came := rest(t, x.s)
	mustCalm(t, x.w, came)
	x.script, x.came = append(x.script, all...), append(x.came, came...)
	mustLookLike(t, x.w, look(x.s))
	x.mustBeAtRest(t)
	return came
}

// mustBeAtRest fails unless nothing is on its way, no change is begun, no frame waits to go, there are just as many tables as the mappings need, and all other frames are free; so that another Calm has no step.
func (x *twins) mustBeAtRest(t *testing.T) {
	t.Helper()
	was := look(x.w)
	if was.busy || was.gone != 0 || !slices.Equal(was.list, x.mapped) {
		t.Fatalf("it is not at rest: %v, with %v mapped", was, x.mapped)
	}
	for core, c := range was.cores {
		if c.on || c.waits || c.a != (api.Access{}) {
			t.Fatalf("the core %d is not at rest: %v", core, was)
		}
	}
	need := x.mapped.tables()
	if len(was.tables) != need || was.free != x.n-need {
		t.Fatalf("%d tables of %d frames, %d of which are free, but %d are needed for %v", len(was.tables), x.n, was.free, need, x.mapped)
	}
	changes := x.w.Times()
	for range 2 {
		mustCalm(t, x.w, nil)
		mustLookLike(t, x.w, was)
	}
	if x.w.Times() != changes {
		t.Fatalf("Calm made %d changes", x.w.Times()-changes)
	}
}

// mustAnswer fails unless the next access of each of these pages, at each core, is answered by what is mapped.
func (x *twins) mustAnswer(t *testing.T, pages []int) {
	t.Helper()
	for core := range x.w.Cores() {
		for _, p := range pages {
			a := api.Access{Page: p, Kind: (p + core) % 3, User: (p/3+core)%4 == 0}
			e := x.do(t, begin(core, a))
			for count := 0; !e.Ended; count++ {
				if count == 5 {
					t.Fatalf("the access %v does not end", a)
				}
				e = x.do(t, walk(core))
			}
			if want := x.mapped.end(a); e != want {
				t.Fatalf("the access %v of the core %d came to %v, want %v of %v", a, core, e, want, x.mapped)
			}
		}
	}
}

// allPages tells each page there is.
func allPages() []int {
	var all []int
	for p := range api.Pages {
		all = append(all, p)
	}
	return all
}
