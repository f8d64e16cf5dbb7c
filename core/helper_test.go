package core_test

import (
	"math"
	"math/big"
	"slices"
	"testing"

	"wayleave/api"
	"wayleave/core"
	"wayleave/frames"
	"wayleave/tlb"
)

const (
	last = api.Pages - 1
	top  = api.Levels - 1
)

// farOff are numbers that are neither a page, nor a size, nor a kind of access, nor rights, nor a frame of any memory.
var farOff = []int{math.MinInt, math.MinInt + 1, -1 << 32, -api.Pages, -129, -64, -8, -2, -1, api.Pages, api.Pages + 1, api.MaxData, 1 << 32, 1<<32 + 1, math.MaxInt - 63, math.MaxInt - 1, math.MaxInt}

// spans tell how many pages an entry of each level has on its way; the leaf of a level is a mapping of the size of that number.
var spans = []int{1, 8, 64, 512}

// somePages are the first and the last one, and those at the edges of what entries of each level have.
var somePages = []int{0, 1, 7, 8, 63, 64, 65, 511, 512, 513, 645, 1234, 2047, 2048, 4031, 4032, 4087, 4088, last - 1, last}

// The bits of a word, as the chapter of entries says them.
const (
	there   = 1
	used    = 1 << 5
	dirty   = 1 << 6
	isALeaf = 1 << 7 // above the level 0
)

// marks are all that may be of a leaf.
var marks = []uint64{0, used, dirty, used | dirty}

// told is what Begin and Step tell.
type told struct {
	a     api.Answer
	ended bool
	code  int
}

var (
	going      = told{}
	notMapped  = told{a: api.Answer{End: api.NotMapped}, ended: true}
	notAllowed = told{a: api.Answer{End: api.NotAllowed}, ended: true}
)

func done(frame, rights int) told {
	return told{a: api.Answer{End: api.Done, Frame: frame, Rights: rights}, ended: true}
}

func fails(code int) told {
	return told{code: code}
}

// line tells the line of the mapping of a size that has the page.
func line(p, size, frame, rights int, isDirty bool) tlb.Line {
	return tlb.Line{M: api.Map{Page: p - p%spans[size], Size: size, Frame: frame, Rights: rights}, Dirty: isDirty}
}

// row tells that many lines that do not meet, of one page each, from a page on; every other one is Dirty, and all have all rights.
func row(from, count int) []tlb.Line {
	var all []tlb.Line
	for i := range count {
		all = append(all, line(from+i, api.Small, 1000+i, 7, i%2 == 0))
	}
	return all
}

// byLine tells what an access of a line's page comes to that the line ends.
func byLine(l tlb.Line, a api.Access) told {
	if !lets(l.M.Rights, a) {
		return notAllowed
	}
	return done(l.M.Frame+a.Page-l.M.Page, l.M.Rights)
}

// without tells lines but for one place.
func without(lines []tlb.Line, place int) []tlb.Line {
	return slices.Delete(slices.Clone(lines), place, place+1)
}

// accesses tells those of a page, of each kind, of a user and not.
func accesses(p int) []api.Access {
	var all []api.Access
	for kind := range 3 {
		all = append(all, api.Access{Page: p, Kind: kind}, api.Access{Page: p, Kind: kind, User: true})
	}
	return all
}

// noAccesses tells what is no access, in each way that page.CheckAccess knows, by the code that it tells.
func noAccesses() map[int][]api.Access {
	wrong := map[int][]api.Access{}
	for _, n := range append([]int{3, 4, 8}, farOff...) {
		for _, p := range append([]int{0, 5, last}, farOff...) {
			wrong[api.ErrKind] = append(wrong[api.ErrKind], api.Access{Page: p, Kind: n}, api.Access{Page: p, Kind: n, User: true})
		}
	}
	for _, p := range farOff {
		wrong[api.ErrRange] = append(wrong[api.ErrRange], accesses(p)...)
	}
	return wrong
}

// lets says which accesses rights let go on, one right behind the other.
func lets(rights int, a api.Access) bool {
	if a.Kind == api.Write && rights&1 == 0 {
		return false
	}
	if a.User && rights&2 == 0 {
		return false
	}
	return a.Kind != api.Run || rights&4 != 0
}

// wants says which marks a leaf must have for an access.
func wants(a api.Access) uint64 {
	if a.Kind == api.Write {
		return used | dirty
	}
	return used
}

// meets says what the chapter of pages says of Meet, with numbers that are never too great.
func meets(a, b api.Map) bool {
	return has(a, b.Page) || has(b, a.Page)
}

func has(m api.Map, p int) bool {
	if m.Size < 0 || m.Size > api.Huge {
		return false
	}
	first, behind := big.NewInt(int64(m.Page)), big.NewInt(int64(spans[m.Size]))
	behind.Add(behind, first)
	asked := big.NewInt(int64(p))
	return asked.Cmp(first) >= 0 && asked.Cmp(behind) < 0
}

// leads tells the word of an entry that leads to a table.
func leads(table int) uint64 { return uint64(table)<<12 | 7<<1 | there }

// leaf tells the word of a leaf of a level.
func leaf(level, frame, rights int, marks uint64) uint64 {
	word := uint64(frame)<<12 | marks | uint64(rights)<<1 | there
	if level > 0 {
		word |= isALeaf
	}
	return word
}

// place tells the place of a page in a table of a level.
func place(p, level int) int { return p / spans[level] % 8 }

// memory is what frames are to be: their words, and which are free, in the order in which they will be taken.
type memory struct {
	words [][api.Fan]uint64
	free  []int
}

func (m *memory) taken(k int) bool {
	return k >= 0 && k < len(m.words) && !slices.Contains(m.free, k)
}

func (m *memory) clone() *memory {
	return &memory{words: slices.Clone(m.words), free: slices.Clone(m.free)}
}

// lay tells frames that are this memory.
func (m *memory) lay(t *testing.T) *frames.Frames {
	t.Helper()
	f, fault := frames.New(len(m.words))
	if fault != (api.Fault{}) {
		t.Fatalf("New(%d): %v", len(m.words), fault)
	}
	for range m.words {
		f.Take()
	}
	for k, words := range m.words {
		for i, word := range words {
			mustStore(t, f, k, i, word)
		}
	}
	for _, k := range slices.Backward(m.free) {
		f.Give(k)
	}
	return f
}

// wayTo lays a way to a page, from the root 0 on, and a word at its end: in the table of a level, which is the frame top - level. All frames are in use; all words beside the way are wrong ones, so that a look at one of them would be told.
func wayTo(p, level int, word uint64) *memory {
	m := &memory{words: make([][api.Fan]uint64, api.Levels)}
	for k := range m.words {
		for i := range m.words[k] {
			m.words[k][i] = 2
		}
	}
	for high := top; high > level; high-- {
		m.words[top-high][place(p, high)] = leads(top - high + 1)
	}
	m.words[top-level][place(p, level)] = word
	return m
}

// with tells the memory in which a word of the way to a page, in the frame of its level, is another one.
func (m *memory) with(p, level int, word uint64) *memory {
	other := m.clone()
	other.words[top-level][place(p, level)] = word
	return other
}

// wrong is a memory in which no step can be gone: what is answered by it was not looked for there.
func wrong() *memory {
	return wayTo(0, top, 2)
}

func mustStore(t *testing.T, f *frames.Frames, k, i int, w uint64) {
	t.Helper()
	if !f.Store(k, i, w) {
		t.Fatalf("Store(%d, %d, %#x): false", k, i, w)
	}
}

// mustGive gives a frame back, and tells what stood in it.
func mustGive(t *testing.T, f *frames.Frames, k int) [api.Fan]uint64 {
	t.Helper()
	var words [api.Fan]uint64
	for i := range words {
		words[i], _ = f.Load(k, i)
	}
	if !f.Give(k) {
		t.Fatalf("Give(%d): false", k)
	}
	return words
}

// mustTake takes the frame that was given back last, and lays words in it.
func mustTake(t *testing.T, f *frames.Frames, k int, words [api.Fan]uint64) {
	t.Helper()
	if got := f.Take(); got != k {
		t.Fatalf("Take: %d, want %d", got, k)
	}
	for i, word := range words {
		mustStore(t, f, k, i, word)
	}
}

// mustHold fails unless frames are this memory, but for the order in which they will be taken.
func mustHold(t *testing.T, f *frames.Frames, want *memory) {
	t.Helper()
	if f.Free() != len(want.free) {
		t.Fatalf("%d frames are free, want %v", f.Free(), want.free)
	}
	for k, words := range want.words {
		if f.Taken(k) != want.taken(k) {
			t.Fatalf("the frame %d is in use: %v", k, f.Taken(k))
		}
		for i, word := range words {
			if got, inUse := f.Load(k, i); inUse && got != word {
				t.Fatalf("the word %d of the frame %d is %#x, want %#x", i, k, got, word)
			}
		}
	}
}

// mustBe fails unless frames are this memory, and takes all that are free: they are not to be asked any more then.
func mustBe(t *testing.T, f *frames.Frames, want *memory) {
	t.Helper()
	mustHold(t, f, want)
	for _, k := range append(slices.Clone(want.free), -1) {
		if got := f.Take(); got != k {
			t.Fatalf("Take: %d, want %d of %v", got, k, want.free)
		}
	}
}

func mustBegin(t *testing.T, c *core.Core, a api.Access, want told) {
	t.Helper()
	if got := begin(c, a); got != want {
		t.Fatalf("Begin(%v): %v, want %v", a, got, want)
	}
}

func begin(c *core.Core, a api.Access) told {
	answer, ended, code := c.Begin(a)
	return told{answer, ended, code}
}

func mustStep(t *testing.T, c *core.Core, f *frames.Frames, want told) {
	t.Helper()
	if got := step(c, f); got != want {
		t.Fatalf("Step: %v, want %v", got, want)
	}
}

func step(c *core.Core, f *frames.Frames) told {
	answer, ended, code := c.Step(f)
	return told{answer, ended, code}
}

// mustNotStep fails unless a step tells this code, and nothing else, as often as it is asked for.
func mustNotStep(t *testing.T, c *core.Core, f *frames.Frames, code int) {
	t.Helper()
	for range 2 {
		mustStep(t, c, f, fails(code))
	}
}

// mustGo fails unless that many steps go on, and leave what is kept as it is.
func mustGo(t *testing.T, c *core.Core, f *frames.Frames, steps int) {
	t.Helper()
	was := c.List()
	for range steps {
		mustStep(t, c, f, going)
		mustSameList(t, "on its way List", c.List(), was)
	}
}

func mustEvict(t *testing.T, c *core.Core, want bool) {
	t.Helper()
	if got := c.Evict(); got != want {
		t.Fatalf("Evict: %v, want %v", got, want)
	}
}

func mustBeBusy(t *testing.T, c *core.Core, a api.Access) {
	t.Helper()
	if !c.Busy() || c.Access() != a {
		t.Fatalf("on its way: %v, %v, want true, %v", c.Busy(), c.Access(), a)
	}
}

// mustBeIdle fails unless a core tells in all its ways that nothing is on its way.
func mustBeIdle(t *testing.T, c *core.Core) {
	t.Helper()
	if c.Busy() || c.Access() != (api.Access{}) {
		t.Fatalf("on its way: %v, %v, want false, nothing", c.Busy(), c.Access())
	}
	m := wrong()
	f := m.lay(t)
	mustNotStep(t, c, f, api.ErrIdle)
	mustBe(t, f, m)
}

func mustFind(t *testing.T, c *core.Core, p int, want tlb.Line, wantFound bool) {
	t.Helper()
	if l, found := c.Find(p); l != want || found != wantFound {
		t.Fatalf("Find(%d): %v, %v, want %v, %v", p, l, found, want, wantFound)
	}
}

func mustSameList(t *testing.T, what string, got, want []tlb.Line) {
	t.Helper()
	if !slices.Equal(got, want) {
		t.Fatalf("%s: %v, want %v", what, got, want)
	}
}

// mustKeep fails unless a core tells in all its ways that these lines, the oldest one first, are kept, and no others.
func mustKeep(t *testing.T, c *core.Core, want ...tlb.Line) {
	t.Helper()
	mustSameList(t, "List", c.List(), want)
	pages := append(slices.Clone(somePages), -1, api.Pages, math.MinInt, math.MaxInt)
	for _, l := range want {
		behind := l.M.Page + spans[l.M.Size]
		pages = append(pages, l.M.Page-1, l.M.Page, behind-1, behind)
	}
	for _, p := range pages {
		i := slices.IndexFunc(want, func(l tlb.Line) bool { return has(l.M, p) })
		if i < 0 {
			mustFind(t, c, p, tlb.Line{}, false)
			continue
		}
		mustFind(t, c, p, want[i], true)
	}
}

// mustWalk makes a core of the root 0 keep a line, by a walk through a memory in which its leaf has its marks; the walk is for a page of its that no other line has.
func mustWalk(t *testing.T, c *core.Core, l tlb.Line) {
	t.Helper()
	p := l.M.Page
	for _, found := c.Find(p); found; _, found = c.Find(p) {
		p++
	}
	mark := uint64(used)
	if l.Dirty {
		mark |= dirty
	}
	f := wayTo(p, l.M.Size, leaf(l.M.Size, l.M.Frame, l.M.Rights, mark)).lay(t)
	mustBegin(t, c, api.Access{Page: p}, going)
	mustGo(t, c, f, top-l.M.Size)
	mustStep(t, c, f, done(l.M.Frame+p-l.M.Page, l.M.Rights))
}

// keeping tells a new core, of the root 0, that keeps these lines, which do not meet, by a walk for each.
func keeping(t *testing.T, lines ...tlb.Line) *core.Core {
	t.Helper()
	c := core.New(0)
	for _, l := range lines {
		mustWalk(t, c, l)
	}
	mustSameList(t, "List", c.List(), lines)
	return c
}

// begun tells a core, of the root 0, that keeps these lines and has an access on its way, that many steps from the root.
func begun(t *testing.T, f *frames.Frames, a api.Access, steps int, lines ...tlb.Line) *core.Core {
	t.Helper()
	c := keeping(t, lines...)
	mustBegin(t, c, a, going)
	mustGo(t, c, f, steps)
	return c
}
