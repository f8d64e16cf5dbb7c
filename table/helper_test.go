package table_test

import (
	"math"
	"slices"
	"testing"

	"wayleave/api"
	"wayleave/frames"
	"wayleave/table"
)

const (
	last = api.Pages - 1
	top  = api.Levels - 1
)

// farOff are numbers that are neither a page, nor a frame of any memory, nor rights, nor a size.
var farOff = []int{math.MinInt, math.MinInt + 1, -1 << 32, -api.MaxData, -api.Pages, -64, -8, -2, -1, api.MaxData, api.MaxData + 64, 1 << 32, 1<<32 + 1, math.MaxInt - 63, math.MaxInt - 1, math.MaxInt}

// noRights are numbers next to rights, and far off.
var noRights = append([]int{8, 9, 15, 16, 64, api.Pages}, farOff...)

// spans tell how many pages an entry of each level has on its way.
var spans = []int{1, 8, 64, 512}

// somePages are the first and the last one, and those at the edges of what entries of each level have.
var somePages = []int{0, 1, 7, 8, 63, 64, 65, 511, 512, 513, 645, 1234, 2047, 2048, 4031, 4032, 4087, 4088, last - 1, last}

// The bits of a word, as the chapter of entries says them.
const (
	there = 1
	used  = 1 << 5
	dirty = 1 << 6
	big   = 1 << 7 // Leaf, above the level 0
)

// marks are all that may be of a leaf.
var marks = []uint64{0, used, dirty, used | dirty}

// table8 is what stands in a frame.
type table8 = [api.Fan]uint64

// leads tells the word of an entry that leads to a table.
func leads(table int) uint64 { return uint64(table)<<12 | 7<<1 | there }

// leaf tells the word of a leaf of a level.
func leaf(level, frame, rights int, marks uint64) uint64 {
	word := uint64(frame)<<12 | marks | uint64(rights)<<1 | there
	if level > 0 {
		word |= big
	}
	return word
}

// place tells the place of a page in a table of a level.
func place(p, level int) int { return p / spans[level] % 8 }

// aligned tells the mapping of a size that has the page.
func aligned(p, size, frame, rights int) api.Map {
	return api.Map{Page: p - p%spans[size], Size: size, Frame: frame, Rights: rights}
}

// memory is what frames are to be: their words, and which are free, in the order in which they will be taken.
type memory struct {
	words []table8
	free  []int
}

// blank tells a memory of n frames, of which these are free.
func blank(n int, free ...int) *memory {
	return &memory{words: make([]table8, n), free: free}
}

func (m *memory) taken(k int) bool {
	return k >= 0 && k < len(m.words) && !slices.Contains(m.free, k)
}

func (m *memory) clone() *memory {
	return &memory{words: slices.Clone(m.words), free: slices.Clone(m.free)}
}

// lay tells frames that are this memory.
func (m *memory) lay(t *testing.T) *frames.Frames {
	t.Helper()
	f, fault := frames.New(len(m.words))
	if fault != (api.Fault{}) {
		t.Fatalf("New(%d): %v", len(m.words), fault)
	}
	for range m.words {
		f.Take()
	}
	for k, words := range m.words {
		for i, word := range words {
			f.Store(k, i, word)
		}
	}
	for _, k := range slices.Backward(m.free) {
		f.Give(k)
	}
	return f
}

// wayTo lays a way to a page, from the root 0 on, and a word at its end: in the table of a level, which is the frame top - level. Behind those, spare frames are free.
func wayTo(p, level int, word uint64, spare int) *memory {
	m := blank(api.Levels - level + spare)
	for k := range spare {
		m.free = append(m.free, api.Levels-level+k)
	}
	for high := top; high > level; high-- {
		m.words[top-high][place(p, high)] = leads(top - high + 1)
	}
	m.words[top-level][place(p, level)] = word
	return m
}

// mustHold fails unless frames are this memory, but for the order in which they will be taken.
func mustHold(t *testing.T, f *frames.Frames, want *memory) {
	t.Helper()
	if f.Free() != len(want.free) {
		t.Fatalf("%d frames are free, want %v", f.Free(), want.free)
	}
	for k, words := range want.words {
		if f.Taken(k) != want.taken(k) {
			t.Fatalf("the frame %d is in use: %v", k, f.Taken(k))
		}
		for i, word := range words {
			if got, inUse := f.Load(k, i); inUse && got != word {
				t.Fatalf("the word %d of the frame %d is %#x, want %#x", i, k, got, word)
			}
		}
	}
}

// mustBe fails unless frames are this memory, and takes all that are free: they are not to be asked any more then.
func mustBe(t *testing.T, f *frames.Frames, want *memory) {
	t.Helper()
	mustHold(t, f, want)
	for _, k := range append(slices.Clone(want.free), -1) {
		if got := f.Take(); got != k {
			t.Fatalf("Take: %d, want %d of %v", got, k, want.free)
		}
	}
}

func mustInsert(t *testing.T, f *frames.Frames, root int, m api.Map, want int) {
	t.Helper()
	if code := table.Insert(f, root, m); code != want {
		t.Fatalf("Insert(%d, %v): %d, want %d", root, m, code, want)
	}
}

func mustRemove(t *testing.T, f *frames.Frames, root, p int, want api.Map, wantGone ...int) {
	t.Helper()
	if m, gone, code := table.Remove(f, root, p); m != want || !slices.Equal(gone, wantGone) || code != 0 {
		t.Fatalf("Remove(%d, %d): %v, %v, %d, want %v, %v, 0", root, p, m, gone, code, want, wantGone)
	}
}

func mustProtect(t *testing.T, f *frames.Frames, root, p, rights int, want api.Map) {
	t.Helper()
	if m, code := table.Protect(f, root, p, rights); m != want || code != 0 {
		t.Fatalf("Protect(%d, %d, %d): %v, %d, want %v, 0", root, p, rights, m, code, want)
	}
}

func mustFind(t *testing.T, f *frames.Frames, root, p int, want api.Map, wantEntry api.Entry) {
	t.Helper()
	if m, e, code := table.Find(f, root, p); m != want || e != wantEntry || code != 0 {
		t.Fatalf("Find(%d, %d): %v, %v, %d, want %v, %v, 0", root, p, m, e, code, want, wantEntry)
	}
}

// mustNotInsert fails unless Insert tells this code and leaves the memory as it is.
func mustNotInsert(t *testing.T, was *memory, root int, m api.Map, want int) {
	t.Helper()
	f := was.lay(t)
	mustInsert(t, f, root, m, want)
	mustBe(t, f, was)
}

// mustNotProtect fails unless Protect tells this code, and nothing else, and leaves the memory as it is.
func mustNotProtect(t *testing.T, was *memory, root, p, rights, want int) {
	t.Helper()
	f := was.lay(t)
	if m, code := table.Protect(f, root, p, rights); m != (api.Map{}) || code != want {
		t.Fatalf("Protect(%d, %d, %d): %v, %d, want nothing, %d", root, p, rights, m, code, want)
	}
	mustBe(t, f, was)
}

// mustHaveNone fails unless Remove, Protect and Find of a page tell this code, and nothing else, and leave the memory as it is.
func mustHaveNone(t *testing.T, was *memory, root, p, want int) {
	t.Helper()
	f := was.lay(t)
	if m, gone, code := table.Remove(f, root, p); m != (api.Map{}) || len(gone) != 0 || code != want {
		t.Fatalf("Remove(%d, %d): %v, %v, %d, want nothing, %d", root, p, m, gone, code, want)
	}
	if m, e, code := table.Find(f, root, p); m != (api.Map{}) || e != (api.Entry{}) || code != want {
		t.Fatalf("Find(%d, %d): %v, %v, %d, want nothing, %d", root, p, m, e, code, want)
	}
	mustBe(t, f, was)
	for rights := range 8 {
		mustNotProtect(t, was, root, p, rights, want)
	}
}
