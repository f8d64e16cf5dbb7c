package space_test

import (
	"math"
	"slices"
	"testing"

	"wayleave/api"
	"wayleave/space"
	"wayleave/tlb"
)

const last = api.Pages - 1

// farOff are numbers that are neither a page, nor a size, nor a kind of access or of step, nor rights, nor a core, nor how many cores or frames there may be.
var farOff = []int{math.MinInt, math.MinInt + 1, math.MinInt + 4, -1 << 32, -1<<32 + 1, -api.MaxData, -api.Pages, -129, -64, -8, -4, -3, -2, -1, api.Pages, api.Pages + 1, api.MaxData, 1 << 32, 1<<32 + 1, 1<<32 + 4, math.MaxInt - 63, math.MaxInt - 1, math.MaxInt}

var (
	noKinds  = append([]int{0, 8, 9, 16, 256 + api.SMap, 256 + api.SAck}, farOff...)
	noRights = append([]int{8, 9, 15, 16, 64}, farOff...)
	noSizes  = append([]int{3, 4, 8}, farOff...)
	// noFrames are numbers of no frame of data: some that are no page are one.
	noFrames = slices.DeleteFunc(slices.Clone(farOff), func(n int) bool { return n >= 0 && n < api.MaxData })
)

// spans tell how many pages an entry of each level has; the leaf of a level is a mapping of the size of that number.
var spans = []int{1, 8, 64, 512, 4096}

// somePages are the first and the last one, and those at the edges of what entries of each level have.
var somePages = []int{0, 1, 4, 5, 6, 7, 8, 13, 15, 16, 63, 64, 65, 127, 128, 511, 512, 513, 645, 1234, 2047, 2048, 4031, 4032, 4087, 4088, last - 1, last}

func mapping(p, size, frame, rights int) api.Map {
	return api.Map{Page: p, Size: size, Frame: frame, Rights: rights}
}

// aligned tells the mapping of a size that has the page.
func aligned(p, size, frame, rights int) api.Map {
	return mapping(p-p%spans[size], size, frame, rights)
}

func smap(m api.Map) api.Step { return api.Step{Kind: api.SMap, M: m} }

func unmap(p int) api.Step { return api.Step{Kind: api.SUnmap, M: api.Map{Page: p}} }

func protect(p, rights int) api.Step {
	return api.Step{Kind: api.SProtect, M: api.Map{Page: p, Rights: rights}}
}

func begin(core int, a api.Access) api.Step {
	return api.Step{Kind: api.SAccess, Core: core, A: a}
}

func read(core, p int) api.Step { return begin(core, api.Access{Page: p}) }

func write(core, p int) api.Step { return begin(core, api.Access{Page: p, Kind: api.Write}) }

func walk(core int) api.Step { return api.Step{Kind: api.SWalk, Core: core} }

func ack(core int) api.Step { return api.Step{Kind: api.SAck, Core: core} }

func evict(core int) api.Step { return api.Step{Kind: api.SEvict, Core: core} }

// times tells a step that many times.
func times(n int, x api.Step) []api.Step {
	return slices.Repeat([]api.Step{x}, n)
}

var (
	going      = api.Event{}
	back       = api.Event{Back: true}
	notMapped  = api.Event{Ended: true, Answer: api.Answer{End: api.NotMapped}}
	notAllowed = api.Event{Ended: true, Answer: api.Answer{End: api.NotAllowed}}
)

func done(frame, rights int) api.Event {
	return api.Event{Ended: true, Answer: api.Answer{End: api.Done, Frame: frame, Rights: rights}}
}

func refused(code int) api.Event { return api.Event{Code: code} }

// lets says which accesses rights let go on, one right behind the other.
func lets(rights int, a api.Access) bool {
	if a.Kind == api.Write && rights&1 == 0 {
		return false
	}
	if a.User && rights&2 == 0 {
		return false
	}
	return a.Kind != api.Run || rights&4 != 0
}

// has says whether a mapping has a page.
func has(m api.Map, p int) bool {
	return p >= m.Page && p < m.Page+spans[m.Size]
}

// accesses tells those of a page, of each kind, of a user and not.
func accesses(p int) []api.Access {
	var all []api.Access
	for kind := range 3 {
		all = append(all, api.Access{Page: p, Kind: kind}, api.Access{Page: p, Kind: kind, User: true})
	}
	return all
}

// noMaps tells what is no mapping, by the code that page.Check tells of it; where several are so, it stands at the first one.
func noMaps() map[int][]api.Map {
	wrong := map[int][]api.Map{}
	for _, n := range noSizes {
		wrong[api.ErrKind] = append(wrong[api.ErrKind], mapping(5, n, 9, 1), mapping(-1, n, -1, 8), mapping(1, n, 1, 1))
	}
	for size := range 3 {
		for _, n := range farOff {
			wrong[api.ErrRange] = append(wrong[api.ErrRange], mapping(n, size, 64, 1), mapping(n, size, n, n))
		}
		for _, n := range noFrames {
			wrong[api.ErrRange] = append(wrong[api.ErrRange], mapping(64, size, n, 1), mapping(1, size, n, 1))
		}
		for _, n := range noRights {
			wrong[api.ErrRange] = append(wrong[api.ErrRange], mapping(64, size, 64, n), mapping(1, size, 1, n))
		}
	}
	for _, n := range []int{1, 4, 7, 9, 65} {
		wrong[api.ErrAlign] = append(wrong[api.ErrAlign], mapping(n, api.Large, 64, 1), mapping(64, api.Large, n, 1), mapping(n, api.Huge, 64, 1), mapping(64, api.Huge, n, 1))
	}
	wrong[api.ErrAlign] = append(wrong[api.ErrAlign], mapping(8, api.Huge, 64, 1), mapping(64, api.Huge, 8, 1), mapping(last, api.Large, 0, 0), mapping(4088, api.Huge, 0, 0))
	return wrong
}

// noAccesses tells what is no access, by the code that page.CheckAccess tells of it; where both are so, it stands at ErrKind.
func noAccesses() map[int][]api.Access {
	wrong := map[int][]api.Access{}
	for _, n := range append([]int{3, 4, 8}, farOff...) {
		for _, p := range []int{0, 5, last, -1, api.Pages, n} {
			wrong[api.ErrKind] = append(wrong[api.ErrKind], api.Access{Page: p, Kind: n}, api.Access{Page: p, Kind: n, User: true})
		}
	}
	for _, p := range farOff {
		wrong[api.ErrRange] = append(wrong[api.ErrRange], accesses(p)...)
	}
	return wrong
}

// upTo tells the cores 0 to count - 1.
func upTo(count int) []int {
	var cores []int
	for core := range count {
		cores = append(cores, core)
	}
	return cores
}

// without tells cores but for one.
func without(cores []int, core int) []int {
	return slices.DeleteFunc(slices.Clone(cores), func(c int) bool { return c == core })
}

// orders tells all orders of some cores.
func orders(cores []int) [][]int {
	if len(cores) == 0 {
		return [][]int{nil}
	}
	var all [][]int
	for _, core := range cores {
		for _, order := range orders(without(cores, core)) {
			all = append(all, append([]int{core}, order...))
		}
	}
	return all
}

// noCoresOf tells numbers of no core of a Space that has that many.
func noCoresOf(count int) []int {
	return append([]int{count, count + 1, count + 4, 64, 256, 1 << 16, 1 << 31}, farOff...)
}

// mustNew tells a new Space.
func mustNew(t *testing.T, cores, n int) *space.Space {
	t.Helper()
	s, fault := space.New(cores, n)
	if s == nil || fault != (api.Fault{}) {
		t.Fatalf("New(%d, %d): %v, %v", cores, n, s, fault)
	}
	return s
}

func mustDo(t *testing.T, s *space.Space, x api.Step, want api.Event) {
	t.Helper()
	if got := s.Do(x); got != want {
		t.Fatalf("Do(%v): %v, want %v", x, got, want)
	}
}

// mustGo fails unless each of these steps comes to nothing that is told.
func mustGo(t *testing.T, s *space.Space, steps ...api.Step) {
	t.Helper()
	for _, x := range steps {
		mustDo(t, s, x, going)
	}
}

// mustMap fails unless each of these mappings is over at once.
func mustMap(t *testing.T, s *space.Space, all ...api.Map) {
	t.Helper()
	for _, m := range all {
		mustDo(t, s, smap(m), back)
	}
}

// mustAck fails unless these cores look after it, and with the last of them a change is over.
func mustAck(t *testing.T, s *space.Space, cores ...int) {
	t.Helper()
	for n, core := range cores {
		if n < len(cores)-1 {
			mustGo(t, s, ack(core))
			continue
		}
		mustDo(t, s, ack(core), back)
	}
}

// mustEnd fails unless a core's access goes on for that many steps, and the next one ends it like this.
func mustEnd(t *testing.T, s *space.Space, core, steps int, want api.Event) {
	t.Helper()
	mustGo(t, s, times(steps, walk(core))...)
	mustDo(t, s, walk(core), want)
}

// mustKeep makes a core keep a line of a mapping that is there, of which no line is kept, by a Read or, for a line that is Dirty, a Write.
func mustKeep(t *testing.T, s *space.Space, core, p int, isDirty bool) {
	t.Helper()
	mustGo(t, s, begin(core, api.Access{Page: p, Kind: map[bool]int{false: api.Read, true: api.Write}[isDirty]}))
	for range 6 {
		if e := s.Do(walk(core)); e.Ended && e.Answer.End == api.Done {
			return
		} else if e != going {
			t.Fatalf("Do(%v): %v", walk(core), e)
		}
	}
	t.Fatalf("the access of the page %d by the core %d does not end", p, core)
}

// mustRefuse fails unless a step tells this code and nothing else, as often as it is asked for, and nothing changes that is told of the Space.
func mustRefuse(t *testing.T, s *space.Space, x api.Step, code int) {
	t.Helper()
	was := look(s)
	for range 2 {
		mustDo(t, s, x, refused(code))
	}
	mustLookLike(t, s, was)
}

// found is what Find tells.
type found struct {
	m    api.Map
	e    api.Entry
	code int
}

// onCore is what is told of a core.
type onCore struct {
	kept  []tlb.Line
	a     api.Access
	on    bool
	waits bool
}

// sight is all that is told of a Space.
type sight struct {
	list              []api.Map
	tables            []int
	finds             []found // of somePages
	busy              bool
	free, gone, count int
	cores             []onCore
}

func find(s *space.Space, p int) found {
	m, e, code := s.Find(p)
	return found{m, e, code}
}

func lookAtCore(s *space.Space, k int) onCore {
	c := onCore{kept: s.Kept(k), waits: s.Waits(k)}
	c.a, c.on = s.On(k)
	return c
}

func look(s *space.Space) sight {
	x := sight{list: s.List(), tables: s.Tables(), busy: s.Busy(), free: s.Free(), gone: s.Gone(), count: s.Cores()}
	for _, p := range somePages {
		x.finds = append(x.finds, find(s, p))
	}
	for k := range s.Cores() {
		x.cores = append(x.cores, lookAtCore(s, k))
	}
	return x
}

func (c onCore) is(d onCore) bool {
	return slices.Equal(c.kept, d.kept) && c.a == d.a && c.on == d.on && c.waits == d.waits
}

func (x sight) is(y sight) bool {
	return slices.Equal(x.list, y.list) && slices.Equal(x.tables, y.tables) && slices.Equal(x.finds, y.finds) &&
		x.busy == y.busy && x.free == y.free && x.gone == y.gone && x.count == y.count && slices.EqualFunc(x.cores, y.cores, onCore.is)
}

func mustLookLike(t *testing.T, s *space.Space, want sight) {
	t.Helper()
	if got := look(s); !got.is(want) {
		t.Fatalf("the Space is\n%v, want\n%v", got, want)
	}
}

// counts are the numbers that are told of a Space.
type counts struct {
	busy       bool
	free, gone int
}

func mustCount(t *testing.T, s *space.Space, want counts) {
	t.Helper()
	if got := (counts{s.Busy(), s.Free(), s.Gone()}); got != want {
		t.Fatalf("Busy, Free, Gone: %v, want %v", got, want)
	}
}

func mustList(t *testing.T, s *space.Space, want ...api.Map) {
	t.Helper()
	if got := s.List(); !slices.Equal(got, want) {
		t.Fatalf("List: %v, want %v", got, want)
	}
}

func mustHaveTables(t *testing.T, s *space.Space, want ...int) {
	t.Helper()
	if got := s.Tables(); !slices.Equal(got, want) {
		t.Fatalf("Tables: %v, want %v", got, want)
	}
}

// mustFind fails unless each page of a mapping has it, with these marks.
func mustFind(t *testing.T, s *space.Space, m api.Map, used, dirty bool) {
	t.Helper()
	want := found{m: m, e: api.Entry{There: true, Leaf: true, Rights: m.Rights, Used: used, Dirty: dirty, Frame: m.Frame}}
	for i := range spans[m.Size] {
		if got := find(s, m.Page+i); got != want {
			t.Fatalf("Find(%d): %v, want %v", m.Page+i, got, want)
		}
	}
}

func mustNotFind(t *testing.T, s *space.Space, code int, pages ...int) {
	t.Helper()
	for _, p := range pages {
		if got := find(s, p); got != (found{code: code}) {
			t.Fatalf("Find(%d): %v, want the code %d alone", p, got, code)
		}
	}
}

func mustHaveKept(t *testing.T, s *space.Space, core int, want ...tlb.Line) {
	t.Helper()
	if got := s.Kept(core); !slices.Equal(got, want) {
		t.Fatalf("Kept(%d): %v, want %v", core, got, want)
	}
}

func mustBeOn(t *testing.T, s *space.Space, core int, want api.Access) {
	t.Helper()
	if a, on := s.On(core); a != want || !on {
		t.Fatalf("On(%d): %v, %v, want %v, true", core, a, on, want)
	}
}

func mustNotBeOn(t *testing.T, s *space.Space, core int) {
	t.Helper()
	if a, on := s.On(core); a != (api.Access{}) || on {
		t.Fatalf("On(%d): %v, %v, want nothing, false", core, a, on)
	}
}

// mustWait fails unless these cores have something to look after, and no others.
func mustWait(t *testing.T, s *space.Space, cores ...int) {
	t.Helper()
	for _, core := range append(upTo(4), noCoresOf(4)...) {
		if got, want := s.Waits(core), slices.Contains(cores, core); got != want {
			t.Fatalf("Waits(%d): %v, want %v, of %v", core, got, want, cores)
		}
	}
	if got, want := s.Busy(), len(cores) > 0; got != want {
		t.Fatalf("Busy: %v, want %v, of %v", got, want, cores)
	}
}

// scene is what a Space may have behind it.
type scene struct {
	cores, n int
	steps    []api.Step
}

// The mappings of the scenes.
var (
	small = mapping(5, api.Small, 9, 3)
	large = mapping(8, api.Large, 16, 7)
	huge  = mapping(128, api.Huge, 640, 0)
)

// scenes tells Spaces of one core to four: new ones, full ones, with changes that are not over, accesses on their way, and lines.
func scenes() []scene {
	all := []scene{{1, 1, nil}, {4, api.MaxFrames, nil}, {1, 4, []api.Step{smap(small)}}}
	three := []api.Step{smap(small), smap(large), smap(huge)}
	onTheWay := append(slices.Clone(three), read(0, 5), walk(0), walk(0), walk(0), write(1, 12), walk(1))
	lines := append(append(slices.Clone(three), write(0, 5)), append(times(5, walk(0)), append([]api.Step{read(1, 9)}, times(4, walk(1))...)...)...)
	for _, ahead := range [][]api.Step{three, onTheWay, lines, append(slices.Clone(lines), read(1, 130), walk(1))} {
		all = append(all, scene{2, 5, ahead})
		for _, change := range []api.Step{unmap(5), unmap(130), protect(12, 4), protect(5, 3)} {
			begun := append(slices.Clone(ahead), change)
			all = append(all, scene{2, 5, begun}, scene{2, 5, append(slices.Clone(begun), ack(1))}, scene{3, 6, append(slices.Clone(begun), ack(0), ack(2))}, scene{2, 5, append(slices.Clone(begun), ack(1), ack(0))})
		}
	}
	return all
}

// reach tells a new Space that has this scene behind it.
func (x scene) reach(t *testing.T) *space.Space {
	t.Helper()
	s := mustNew(t, x.cores, x.n)
	for _, step := range x.steps {
		if e := s.Do(step); e.Code != 0 {
			t.Fatalf("Do(%v): %v", step, e)
		}
	}
	return s
}
