package walker_test

import (
	"math"
	"slices"
	"testing"

	"wayleave/api"
	"wayleave/frames"
	"wayleave/tlb"
	"wayleave/walker"
)

const (
	last = api.Pages - 1
	top  = api.Levels - 1
)

// farOff are numbers that are neither a page, nor a kind of access, nor a frame of any memory.
var farOff = []int{math.MinInt, math.MinInt + 1, -1 << 32, -api.Pages, -129, -8, -2, -1, api.Pages, api.Pages + 1, api.MaxData, 1 << 32, 1<<32 + 1, math.MaxInt - 1, math.MaxInt}

// spans tell how many pages an entry of each level has on its way.
var spans = []int{1, 8, 64, 512}

// somePages are the first and the last one, and those at the edges of what entries of each level have.
var somePages = []int{0, 1, 7, 8, 63, 64, 65, 511, 512, 513, 645, 1234, 2047, 2048, 4031, 4032, 4087, 4088, last - 1, last}

// The bits of a word, as the chapter of entries says them.
const (
	there = 1
	used  = 1 << 5
	dirty = 1 << 6
	big   = 1 << 7 // Leaf, above the level 0
)

// marks are all that may be of a leaf.
var marks = []uint64{0, used, dirty, used | dirty}

// going is what a step comes to that does not end the way.
var going = walker.Result{}

// notMapped and notAllowed are what a step comes to that ends the way so.
var (
	notMapped  = walker.Result{Ended: true, A: api.Answer{End: api.NotMapped}}
	notAllowed = walker.Result{Ended: true, A: api.Answer{End: api.NotAllowed}}
)

// done tells what a step comes to that ends the way at a leaf of a level, Dirty or not.
func done(p, level, frame, rights int, isDirty bool) walker.Result {
	m := api.Map{Page: p - p%spans[level], Size: level, Frame: frame, Rights: rights}
	return walker.Result{Ended: true, A: api.Answer{Frame: frame + p%spans[level], Rights: rights}, L: tlb.Line{M: m, Dirty: isDirty}}
}

// accesses tells those of a page, of each kind, of a user and not.
func accesses(p int) []api.Access {
	var all []api.Access
	for kind := range 3 {
		all = append(all, api.Access{Page: p, Kind: kind}, api.Access{Page: p, Kind: kind, User: true})
	}
	return all
}

// noAccesses tells what is no access, in each way that page.CheckAccess knows, by the code that it tells.
func noAccesses() map[int][]api.Access {
	wrong := map[int][]api.Access{}
	for _, n := range append([]int{3, 4, 8}, farOff...) {
		for _, p := range append([]int{0, 5, last}, farOff...) {
			wrong[api.ErrKind] = append(wrong[api.ErrKind], api.Access{Page: p, Kind: n}, api.Access{Page: p, Kind: n, User: true})
		}
	}
	for _, p := range farOff {
		wrong[api.ErrRange] = append(wrong[api.ErrRange], accesses(p)...)
	}
	return wrong
}

// lets says which accesses rights let go on, one right behind the other.
func lets(rights int, a api.Access) bool {
	if a.Kind == api.Write && rights&1 == 0 {
		return false
	}
	if a.User && rights&2 == 0 {
		return false
	}
	return a.Kind != api.Run || rights&4 != 0
}

// wants says which marks a leaf must have for an access.
func wants(a api.Access) uint64 {
	if a.Kind == api.Write {
		return used | dirty
	}
	return used
}

// leads tells the word of an entry that leads to a table.
func leads(table int) uint64 { return uint64(table)<<12 | 7<<1 | there }

// leaf tells the word of a leaf of a level.
func leaf(level, frame, rights int, marks uint64) uint64 {
	word := uint64(frame)<<12 | marks | uint64(rights)<<1 | there
	if level > 0 {
		word |= big
	}
	return word
}

// place tells the place of a page in a table of a level.
func place(p, level int) int { return p / spans[level] % 8 }

// memory is what frames are to be: their words, and which are free, in the order in which they will be taken.
type memory struct {
	words [][api.Fan]uint64
	free  []int
}

func (m *memory) taken(k int) bool {
	return k >= 0 && k < len(m.words) && !slices.Contains(m.free, k)
}

func (m *memory) clone() *memory {
	return &memory{words: slices.Clone(m.words), free: slices.Clone(m.free)}
}

// lay tells frames that are this memory.
func (m *memory) lay(t *testing.T) *frames.Frames {
	t.Helper()
	f, fault := frames.New(len(m.words))
	if fault != (api.Fault{}) {
		t.Fatalf("New(%d): %v", len(m.words), fault)
	}
	for range m.words {
		f.Take()
	}
	for k, words := range m.words {
		for i, word := range words {
			mustStore(t, f, k, i, word)
		}
	}
	for _, k := range slices.Backward(m.free) {
		f.Give(k)
	}
	return f
}

// wayTo lays a way to a page, from the root 0 on, and a word at its end: in the table of a level, which is the frame top - level. All frames are in use; all words beside the way are wrong ones, so that a look at one of them would be told.
func wayTo(p, level int, word uint64) *memory {
	m := &memory{words: make([][api.Fan]uint64, api.Levels)}
	for k := range m.words {
		for i := range m.words[k] {
			m.words[k][i] = 2
		}
	}
	for high := top; high > level; high-- {
		m.words[top-high][place(p, high)] = leads(top - high + 1)
	}
	m.words[top-level][place(p, level)] = word
	return m
}

// with tells the memory in which a word of the way to a page, in the frame of its level, is another one.
func (m *memory) with(p, level int, word uint64) *memory {
	other := m.clone()
	other.words[top-level][place(p, level)] = word
	return other
}

func mustStore(t *testing.T, f *frames.Frames, k, i int, w uint64) {
	t.Helper()
	if !f.Store(k, i, w) {
		t.Fatalf("Store(%d, %d, %#x): false", k, i, w)
	}
}

// mustGive gives a frame back, and tells what stood in it.
func mustGive(t *testing.T, f *frames.Frames, k int) [api.Fan]uint64 {
	t.Helper()
	var words [api.Fan]uint64
	for i := range words {
		words[i], _ = f.Load(k, i)
	}
	if !f.Give(k) {
		t.Fatalf("Give(%d): false", k)
	}
	return words
}

// mustTake takes the frame that was given back last, and lays words in it.
func mustTake(t *testing.T, f *frames.Frames, k int, words [api.Fan]uint64) {
	t.Helper()
	if got := f.Take(); got != k {
		t.Fatalf("Take: %d, want %d", got, k)
	}
	for i, word := range words {
		mustStore(t, f, k, i, word)
	}
}

// mustHold fails unless frames are this memory, but for the order in which they will be taken.
func mustHold(t *testing.T, f *frames.Frames, want *memory) {
	t.Helper()
	if f.Free() != len(want.free) {
		t.Fatalf("%d frames are free, want %v", f.Free(), want.free)
	}
	for k, words := range want.words {
		if f.Taken(k) != want.taken(k) {
			t.Fatalf("the frame %d is in use: %v", k, f.Taken(k))
		}
		for i, word := range words {
			if got, inUse := f.Load(k, i); inUse && got != word {
				t.Fatalf("the word %d of the frame %d is %#x, want %#x", i, k, got, word)
			}
		}
	}
}

// mustBe fails unless frames are this memory, and takes all that are free: they are not to be asked any more then.
func mustBe(t *testing.T, f *frames.Frames, want *memory) {
	t.Helper()
	mustHold(t, f, want)
	for _, k := range append(slices.Clone(want.free), -1) {
		if got := f.Take(); got != k {
			t.Fatalf("Take: %d, want %d of %v", got, k, want.free)
		}
	}
}

func mustBegin(t *testing.T, k *walker.Walker, a api.Access, want int) {
	t.Helper()
	if code := k.Begin(a); code != want {
		t.Fatalf("Begin(%v): %d, want %d", a, code, want)
	}
}

func mustStep(t *testing.T, k *walker.Walker, f *frames.Frames, want walker.Result) {
	t.Helper()
	if r, code := k.Step(f); r != want || code != 0 {
		t.Fatalf("Step: %v, %d, want %v, 0", r, code, want)
	}
}

// mustNotStep fails unless a step tells this code, and nothing else, as often as it is asked for.
func mustNotStep(t *testing.T, k *walker.Walker, f *frames.Frames, want int) {
	t.Helper()
	for range 2 {
		if r, code := k.Step(f); r != (walker.Result{}) || code != want {
			t.Fatalf("Step: %v, %d, want nothing, %d", r, code, want)
		}
	}
}

// mustGo fails unless that many steps go on.
func mustGo(t *testing.T, k *walker.Walker, f *frames.Frames, steps int) {
	t.Helper()
	for range steps {
		mustStep(t, k, f, going)
	}
}

func mustBeOn(t *testing.T, k *walker.Walker, a api.Access) {
	t.Helper()
	if !k.On() || k.Access() != a {
		t.Fatalf("on its way: %v, %v, want true, %v", k.On(), k.Access(), a)
	}
}

// mustBeOff fails unless a walk tells in all its ways that it is not on its way.
func mustBeOff(t *testing.T, k *walker.Walker, f *frames.Frames) {
	t.Helper()
	if k.On() || k.Access() != (api.Access{}) {
		t.Fatalf("on its way: %v, %v, want false, nothing", k.On(), k.Access())
	}
	mustNotStep(t, k, f, api.ErrIdle)
}

// begun tells a walk, from the root 0 on, that is on its way, that many steps from the root.
func begun(t *testing.T, f *frames.Frames, a api.Access, steps int) *walker.Walker {
	t.Helper()
	k := walker.New(0)
	mustBegin(t, k, a, 0)
	mustGo(t, k, f, steps)
	return k
}
