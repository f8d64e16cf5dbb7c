package watch_test

import (
	"math"
	"slices"
	"testing"

	"wayleave/api"
	"wayleave/space"
	"wayleave/tlb"
	"wayleave/watch"
)

const last = api.Pages - 1

// farOff are numbers that are neither a page, nor a size, nor a kind of access or of step, nor rights, nor a core, nor how many cores or frames there may be.
var farOff = []int{math.MinInt, math.MinInt + 1, math.MinInt + 4, -1 << 32, -1<<32 + 1, -api.MaxData, -api.Pages, -129, -64, -8, -4, -3, -2, -1, api.Pages, api.Pages + 1, api.MaxData, 1 << 32, 1<<32 + 1, 1<<32 + 4, math.MaxInt - 63, math.MaxInt - 1, math.MaxInt}

// spans tell how many pages a mapping of each size has.
var spans = []int{1, 8, 64}

// somePages are the first and the last one, and those at the edges of what entries of each level have; some are none.
var somePages = []int{0, 4, 5, 6, 7, 8, 13, 15, 16, 63, 64, 127, 128, 191, 192, 511, 512, 645, 4031, 4032, last, -1, api.Pages}

// The mappings of many tests.
var (
	small = mapping(5, api.Small, 9, 3)
	large = mapping(8, api.Large, 16, 7)
	huge  = mapping(128, api.Huge, 640, 0)
)

func mapping(p, size, frame, rights int) api.Map {
	return api.Map{Page: p, Size: size, Frame: frame, Rights: rights}
}

func smap(m api.Map) api.Step { return api.Step{Kind: api.SMap, M: m} }

func unmap(p int) api.Step { return api.Step{Kind: api.SUnmap, M: api.Map{Page: p}} }

func protect(p, rights int) api.Step {
	return api.Step{Kind: api.SProtect, M: api.Map{Page: p, Rights: rights}}
}

func begin(core int, a api.Access) api.Step {
	return api.Step{Kind: api.SAccess, Core: core, A: a}
}

func read(core, p int) api.Step { return begin(core, api.Access{Page: p}) }

func write(core, p int) api.Step { return begin(core, api.Access{Page: p, Kind: api.Write}) }

func walk(core int) api.Step { return api.Step{Kind: api.SWalk, Core: core} }

func ack(core int) api.Step { return api.Step{Kind: api.SAck, Core: core} }

func evict(core int) api.Step { return api.Step{Kind: api.SEvict, Core: core} }

// times tells a step that many times.
func times(n int, x api.Step) []api.Step {
	return slices.Repeat([]api.Step{x}, n)
}

// steps puts steps, and lists of them, one behind the other.
func steps(parts ...any) []api.Step {
	var all []api.Step
	for _, part := range parts {
		switch x := part.(type) {
		case api.Step:
			all = append(all, x)
		case []api.Step:
			all = append(all, x...)
		}
	}
	return all
}

var (
	going      = api.Event{}
	back       = api.Event{Back: true}
	notMapped  = api.Event{Ended: true, Answer: api.Answer{End: api.NotMapped}}
	notAllowed = api.Event{Ended: true, Answer: api.Answer{End: api.NotAllowed}}
)

func done(frame, rights int) api.Event {
	return api.Event{Ended: true, Answer: api.Answer{End: api.Done, Frame: frame, Rights: rights}}
}

func refused(code int) api.Event { return api.Event{Code: code} }

// lets says which accesses rights let go on, one right behind the other.
func lets(rights int, a api.Access) bool {
	if a.Kind == api.Write && rights&1 == 0 {
		return false
	}
	if a.User && rights&2 == 0 {
		return false
	}
	return a.Kind != api.Run || rights&4 != 0
}

// has says whether a mapping has a page.
func has(m api.Map, p int) bool {
	return p >= m.Page && p < m.Page+spans[m.Size]
}

// accesses tells those of a page, of each kind, of a user and not.
func accesses(p int) []api.Access {
	var all []api.Access
	for kind := range 3 {
		all = append(all, api.Access{Page: p, Kind: kind}, api.Access{Page: p, Kind: kind, User: true})
	}
	return all
}

// upTo tells the cores 0 to count - 1.
func upTo(count int) []int {
	var cores []int
	for core := range count {
		cores = append(cores, core)
	}
	return cores
}

// noCoresOf tells numbers of no core of a Watch that has that many.
func noCoresOf(count int) []int {
	return append([]int{count, count + 1, count + 4, 64, 256, 1 << 16, 1 << 31}, farOff...)
}

// teller is what a Space tells of itself, and a Watch, too.
type teller interface {
	List() []api.Map
	Tables() []int
	Find(p int) (api.Map, api.Entry, int)
	Busy() bool
	Free() int
	Gone() int
	Kept(k int) []tlb.Line
	On(k int) (api.Access, bool)
	Waits(k int) bool
	Cores() int
}

// found is what Find tells.
type found struct {
	m    api.Map
	e    api.Entry
	code int
}

// onCore is what is told of a core.
type onCore struct {
	kept  []tlb.Line
	a     api.Access
	on    bool
	waits bool
}

// sight is all that a teller tells.
type sight struct {
	list              []api.Map
	tables            []int
	finds             []found // of somePages
	busy              bool
	free, gone, count int
	cores             []onCore // those that are, and some that are none
}

func lookAtCore(s teller, k int) onCore {
	c := onCore{kept: s.Kept(k), waits: s.Waits(k)}
	c.a, c.on = s.On(k)
	return c
}

func look(s teller) sight {
	x := sight{list: s.List(), tables: s.Tables(), busy: s.Busy(), free: s.Free(), gone: s.Gone(), count: s.Cores()}
	for _, p := range somePages {
		m, e, code := s.Find(p)
		x.finds = append(x.finds, found{m, e, code})
	}
	for k := -1; k <= s.Cores(); k++ {
		x.cores = append(x.cores, lookAtCore(s, k))
	}
	return x
}

func (c onCore) is(d onCore) bool {
	return slices.Equal(c.kept, d.kept) && c.a == d.a && c.on == d.on && c.waits == d.waits
}

func (x sight) is(y sight) bool {
	return slices.Equal(x.list, y.list) && slices.Equal(x.tables, y.tables) && slices.Equal(x.finds, y.finds) &&
		x.busy == y.busy && x.free == y.free && x.gone == y.gone && x.count == y.count && slices.EqualFunc(x.cores, y.cores, onCore.is)
}

func mustLookLike(t *testing.T, s teller, want sight) {
	t.Helper()
	if got := look(s); !got.is(want) {
		t.Fatalf("it is\n%v, want\n%v", got, want)
	}
}

// mustNew tells a new Watch.
func mustNew(t *testing.T, cores, n int) *watch.Watch {
	t.Helper()
	w, fault := watch.New(cores, n)
	if w == nil || fault != (api.Fault{}) {
		t.Fatalf("New(%d, %d): %v, %v", cores, n, w, fault)
	}
	return w
}

// mustNewSpace tells a new Space, of which the same is to be asked as of a Watch.
func mustNewSpace(t *testing.T, cores, n int) *space.Space {
	t.Helper()
	s, fault := space.New(cores, n)
	if s == nil || fault != (api.Fault{}) {
		t.Fatalf("space.New(%d, %d): %v, %v", cores, n, s, fault)
	}
	return s
}

func mustDo(t *testing.T, w *watch.Watch, x api.Step, want api.Event) {
	t.Helper()
	if got, fault := w.Do(x); got != want || fault != (api.Fault{}) {
		t.Fatalf("Do(%v): %v, %v, want %v and no fault", x, got, fault, want)
	}
}

// mustGo fails unless each of these steps comes to nothing that is told.
func mustGo(t *testing.T, w *watch.Watch, all ...api.Step) {
	t.Helper()
	for _, x := range all {
		mustDo(t, w, x, going)
	}
}

// mustMap fails unless each of these mappings is over at once.
func mustMap(t *testing.T, w *watch.Watch, all ...api.Map) {
	t.Helper()
	for _, m := range all {
		mustDo(t, w, smap(m), back)
	}
}

// mustAck fails unless these cores look after it, and with the last of them a change is over.
func mustAck(t *testing.T, w *watch.Watch, cores ...int) {
	t.Helper()
	for n, core := range cores {
		if n < len(cores)-1 {
			mustGo(t, w, ack(core))
			continue
		}
		mustDo(t, w, ack(core), back)
	}
}

// mustEnd fails unless a core's access goes on for that many steps, and the next one ends it like this.
func mustEnd(t *testing.T, w *watch.Watch, core, count int, want api.Event) {
	t.Helper()
	mustGo(t, w, times(count, walk(core))...)
	mustDo(t, w, walk(core), want)
}

// mustRefuse fails unless a step tells this code and nothing else, as often as it is asked for, and nothing changes that is told of the Watch.
func mustRefuse(t *testing.T, w *watch.Watch, x api.Step, code int) {
	t.Helper()
	was, count := look(w), w.Times()
	for range 2 {
		mustDo(t, w, x, refused(code))
		mustHaveTimes(t, w, count)
	}
	mustLookLike(t, w, was)
}

func mustHaveTimes(t *testing.T, w *watch.Watch, want int) {
	t.Helper()
	if got := w.Times(); got != want {
		t.Fatalf("Times: %d, want %d", got, want)
	}
}

// scene is what a Watch may have behind it.
type scene struct {
	cores, n int
	steps    []api.Step
}

// scenes tells Watches of one core to four: new ones, with changes that are not over, accesses on their way, and lines.
func scenes() []scene {
	all := []scene{{1, 1, nil}, {4, api.MaxFrames, nil}, {1, 4, steps(smap(small))}}
	three := steps(smap(small), smap(large), smap(huge))
	onTheWay := steps(three, read(0, 5), times(3, walk(0)), write(1, 12), walk(1))
	lines := steps(three, write(0, 5), times(5, walk(0)), read(1, 9), times(4, walk(1)))
	for _, ahead := range [][]api.Step{three, onTheWay, lines, steps(lines, read(1, 130), walk(1))} {
		all = append(all, scene{2, 5, ahead})
		for _, change := range []api.Step{unmap(5), unmap(130), protect(12, 4), protect(5, 3)} {
			begun := steps(ahead, change)
			all = append(all, scene{2, 5, begun}, scene{2, 5, steps(begun, ack(1))}, scene{3, 6, steps(begun, ack(0), ack(2))}, scene{2, 5, steps(begun, ack(1), ack(0))})
		}
	}
	return all
}

// reach tells a new Watch that has this scene behind it, and a Space of which the same was asked.
func (x scene) reach(t *testing.T) (*watch.Watch, *space.Space) {
	t.Helper()
	w, s := mustNew(t, x.cores, x.n), mustNewSpace(t, x.cores, x.n)
	for _, step := range x.steps {
		e := s.Do(step)
		if e.Code != 0 {
			t.Fatalf("space.Do(%v): %v", step, e)
		}
		mustDo(t, w, step, e)
	}
	return w, s
}
