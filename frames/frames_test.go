package frames_test

import (
	"fmt"
	"math"
	"testing"

	"wayleave/api"
	"wayleave/frames"
)

// farOff are numbers that are neither a frame nor a word of any memory.
var farOff = []int{math.MinInt, math.MinInt + 1, -1 << 32, -129, -8, -2, -1, 129, 1 << 20, 1 << 32, 1<<32 + 1, math.MaxInt - 1, math.MaxInt}

// words are those that a frame may hold: any.
var words = []uint64{0, 1, 2, 1 << 31, 1 << 32, 1 << 63, math.MaxUint64 - 1, math.MaxUint64}

// memory tells a new memory of n frames.
func memory(t *testing.T, n int) *frames.Frames {
	t.Helper()
	f, fault := frames.New(n)
	if f == nil || fault != (api.Fault{}) {
		t.Fatalf("New(%d): %v, %v, want frames and no fault", n, f, fault)
	}
	return f
}

// filled tells a memory of n frames, all of them in use.
func filled(t *testing.T, n int) *frames.Frames {
	t.Helper()
	f := memory(t, n)
	for range n {
		f.Take()
	}
	return f
}

// takes tells what Take answers, time after time.
func takes(f *frames.Frames, times int) []int {
	var got []int
	for range times {
		got = append(got, f.Take())
	}
	return got
}

func mustSame(t *testing.T, what string, got, want any) {
	t.Helper()
	if fmt.Sprint(got) != fmt.Sprint(want) {
		t.Errorf("%s: %v, want %v", what, got, want)
	}
}

// mustHold fails unless the words of a frame in use are these.
func mustHold(t *testing.T, f *frames.Frames, k int, want [api.Fan]uint64) {
	t.Helper()
	for i, word := range want {
		if got, ok := f.Load(k, i); got != word || !ok {
			t.Errorf("Load(%d, %d): %d, %v, want %d, true", k, i, got, ok, word)
		}
	}
}

// mustHaveNone fails if a memory has the word i of a frame k, or takes one there.
func mustHaveNone(t *testing.T, f *frames.Frames, k, i int) {
	t.Helper()
	for _, word := range words {
		if got, ok := f.Load(k, i); got != 0 || ok {
			t.Errorf("Load(%d, %d): %d, %v, want 0, false", k, i, got, ok)
		}
		if f.Store(k, i, word) {
			t.Errorf("Store(%d, %d, %d): true", k, i, word)
		}
		for _, old := range words {
			if f.Swap(k, i, old, word) {
				t.Errorf("Swap(%d, %d, %d, %d): true", k, i, old, word)
			}
		}
	}
}

func TestNew(t *testing.T) {
	for n := 0; n <= api.MaxFrames; n++ {
		f := memory(t, n)
		mustSame(t, "free at first", f.Free(), n)
		for k := -1; k <= n; k++ {
			if f.Taken(k) || f.Give(k) {
				t.Errorf("of %d frames, %d is in use at first", n, k)
			}
		}
		for k := range n {
			mustSame(t, "take", f.Take(), k)
			mustSame(t, "free", f.Free(), n-k-1)
		}
		mustSame(t, "take from none", takes(f, 3), []int{-1, -1, -1})
		mustSame(t, "free at last", f.Free(), 0)
	}
}

func TestNewOfWrongCounts(t *testing.T) {
	for _, n := range farOff {
		f, fault := frames.New(n)
		if f != nil || fault != (api.Fault{Code: api.ErrRange, At: -1}) {
			t.Errorf("New(%d): %v, %v, want nil, ErrRange at -1", n, f, fault)
		}
	}
}

func TestNoFrame(t *testing.T) {
	f := memory(t, 0)
	mustSame(t, "take", takes(f, 2), []int{-1, -1})
	mustSame(t, "free", f.Free(), 0)
	for _, k := range append([]int{0, 1}, farOff...) {
		if f.Taken(k) || f.Give(k) {
			t.Errorf("%d is in use, and there is no frame", k)
		}
		mustHaveNone(t, f, k, 0)
	}
	mustSame(t, "free", f.Free(), 0)
}

func TestOneFrame(t *testing.T) {
	f := memory(t, 1)
	for range 3 {
		mustSame(t, "take", takes(f, 2), []int{0, -1})
		mustSame(t, "in use", []any{f.Taken(0), f.Taken(1), f.Free()}, []any{true, false, 0})
		mustSame(t, "give", []any{f.Give(1), f.Give(0), f.Give(0)}, []any{false, true, false})
		mustSame(t, "free", []any{f.Taken(0), f.Free()}, []any{false, 1})
	}
}

func TestTakenAndGive(t *testing.T) {
	f := memory(t, 5)
	takes(f, 3)
	mustSame(t, "give", f.Give(1), true)
	for k, want := range []bool{true, false, true, false, false, false} {
		mustSame(t, fmt.Sprint("taken ", k), f.Taken(k), want)
	}
	for _, k := range append([]int{1, 3, 4, 5, 128}, farOff...) {
		if f.Taken(k) || f.Give(k) {
			t.Errorf("%d is in use", k)
		}
	}
	mustSame(t, "a wrong Give changes nothing", []any{f.Free(), takes(f, 4)}, []any{3, []int{1, 3, 4, -1}})
}

func TestLastFrame(t *testing.T) {
	f := filled(t, api.MaxFrames)
	last := api.MaxFrames - 1
	mustSame(t, "in use", []bool{f.Taken(0), f.Taken(last), f.Taken(last + 1)}, []bool{true, true, false})
	mustSame(t, "store", []bool{f.Store(0, 0, 1), f.Store(last, 7, 2), f.Store(last+1, 0, 3)}, []bool{true, true, false})
	mustHold(t, f, 0, [api.Fan]uint64{1})
	mustHold(t, f, last, [api.Fan]uint64{7: 2})
	mustSame(t, "give", []bool{f.Give(last + 1), f.Give(last), f.Give(0)}, []bool{false, true, true})
	mustSame(t, "take", takes(f, 3), []int{0, last, -1})
}

func TestTakeTheLastGivenBack(t *testing.T) {
	for _, c := range []struct{ give, want []int }{
		{nil, []int{4, 5, -1}},
		{[]int{0}, []int{0, 4, 5, -1}},
		{[]int{3}, []int{3, 4, 5, -1}},
		{[]int{0, 1, 2, 3}, []int{3, 2, 1, 0, 4, 5, -1}},
		{[]int{3, 2, 1, 0}, []int{0, 1, 2, 3, 4, 5, -1}},
		{[]int{2, 0, 3, 1}, []int{1, 3, 0, 2, 4, 5, -1}},
		{[]int{1, 1, 3, 1, 4}, []int{3, 1, 4, 5, -1}},
	} {
		f := memory(t, 6)
		takes(f, 4)
		for _, k := range c.give {
			f.Give(k)
		}
		mustSame(t, fmt.Sprint("free behind ", c.give), f.Free(), len(c.want)-1)
		mustSame(t, fmt.Sprint("take behind ", c.give), takes(f, len(c.want)), c.want)
	}
}

func TestTakeAndGiveMixed(t *testing.T) {
	f := memory(t, 5)
	mustSame(t, "take", takes(f, 2), []int{0, 1})
	mustSame(t, "give", f.Give(0), true)
	mustSame(t, "given back, then never in use", takes(f, 2), []int{0, 2})
	mustSame(t, "give", []bool{f.Give(1), f.Give(2)}, []bool{true, true})
	mustSame(t, "one of two", takes(f, 1), []int{2})
	mustSame(t, "give", f.Give(0), true)
	mustSame(t, "the last one first, and the older one then", takes(f, 5), []int{0, 1, 3, 4, -1})
	mustSame(t, "give", []bool{f.Give(4), f.Give(2)}, []bool{true, true})
	mustSame(t, "all were in use", takes(f, 3), []int{2, 4, -1})
}

func TestLoadAndStore(t *testing.T) {
	f := memory(t, 3)
	takes(f, 3)
	var want [3][api.Fan]uint64
	for round := range len(words) {
		for k := range want {
			for i := range want[k] {
				word := words[(round+3*k+i)%len(words)]
				if !f.Store(k, i, word) {
					t.Fatalf("Store(%d, %d, %d): false", k, i, word)
				}
				want[k][i] = word
				for other := range want {
					mustHold(t, f, other, want[other])
				}
			}
		}
	}
}

func TestSwap(t *testing.T) {
	f := filled(t, 2)
	for i := range api.Fan {
		for _, was := range words {
			for _, old := range words {
				for _, word := range words {
					f.Store(0, i, was)
					if f.Swap(0, i, old, word) != (was == old) {
						t.Errorf("Swap(0, %d, %d, %d) of %d", i, old, word, was)
					}
					want := [api.Fan]uint64{}
					want[i] = was
					if was == old {
						want[i] = word
					}
					mustHold(t, f, 0, want)
				}
			}
		}
		f.Store(0, i, 0)
	}
	mustHold(t, f, 1, [api.Fan]uint64{})
}

func TestNoSuchWord(t *testing.T) {
	f := memory(t, 4)
	takes(f, 3)
	f.Give(1)
	for _, k := range append([]int{1, 3, 4, 128}, farOff...) {
		for _, i := range append([]int{0, 1, 7, 8}, farOff...) {
			mustHaveNone(t, f, k, i)
		}
	}
	for _, k := range []int{0, 2} {
		for _, i := range append([]int{8, 9, 16, 128}, farOff...) {
			mustHaveNone(t, f, k, i)
		}
		mustHold(t, f, k, [api.Fan]uint64{})
	}
	mustSame(t, "take", []any{f.Free(), takes(f, 3)}, []any{2, []int{1, 3, -1}})
	mustHold(t, f, 1, [api.Fan]uint64{})
	mustHold(t, f, 3, [api.Fan]uint64{})
}

func TestWordsAreNoughtsWhenTakenAgain(t *testing.T) {
	f := filled(t, 3)
	full := [api.Fan]uint64{1, 2, 3, 4, 5, 6, 7, math.MaxUint64}
	for k := range 3 {
		for i, word := range full {
			f.Store(k, i, word)
		}
	}
	f.Give(1)
	mustHaveNone(t, f, 1, 0)
	mustHaveNone(t, f, 1, 7)
	mustSame(t, "take", f.Take(), 1)
	mustHold(t, f, 0, full)
	mustHold(t, f, 1, [api.Fan]uint64{})
	mustHold(t, f, 2, full)
	mustSame(t, "take from none", f.Take(), -1)
	mustHold(t, f, 0, full)
	mustHold(t, f, 2, full)
}

func TestTwoMemories(t *testing.T) {
	a, b := memory(t, 3), memory(t, 3)
	mustSame(t, "take of the one", takes(a, 2), []int{0, 1})
	a.Store(0, 0, 5)
	mustSame(t, "the other", []any{b.Free(), b.Taken(0), b.Give(0)}, []any{3, false, false})
	mustHaveNone(t, b, 0, 0)
	mustSame(t, "take of the other", takes(b, 3), []int{0, 1, 2})
	b.Store(0, 0, 6)
	b.Give(1)
	mustHold(t, a, 0, [api.Fan]uint64{5})
	mustHold(t, b, 0, [api.Fan]uint64{6})
	mustSame(t, "the one", []any{a.Taken(1), a.Free(), takes(a, 2)}, []any{true, 1, []int{2, -1}})
	mustSame(t, "the other", takes(b, 2), []int{1, -1})
}

// model says what the chapter says, frame by frame, by the times at which they were given back.
type model struct {
	taken, was []bool
	givenAt    []int
	words      [][api.Fan]uint64
	now        int
}

func newModel(n int) *model {
	return &model{taken: make([]bool, n), was: make([]bool, n), givenAt: make([]int, n), words: make([][api.Fan]uint64, n)}
}

func (m *model) take() int {
	last, fresh := -1, -1
	for k := range m.taken {
		switch {
		case m.taken[k]:
		case m.was[k] && (last < 0 || m.givenAt[k] > m.givenAt[last]):
			last = k
		case !m.was[k] && fresh < 0:
			fresh = k
		}
	}
	if last < 0 {
		last = fresh
	}
	if last >= 0 {
		m.taken[last], m.was[last], m.words[last] = true, true, [api.Fan]uint64{}
	}
	return last
}

func (m *model) has(k int) bool { return k >= 0 && k < len(m.taken) && m.taken[k] }

func (m *model) give(k int) bool {
	if !m.has(k) {
		return false
	}
	m.now++
	m.taken[k], m.givenAt[k] = false, m.now
	return true
}

func (m *model) free() int {
	free := 0
	for _, taken := range m.taken {
		if !taken {
			free++
		}
	}
	return free
}

// mustAgree fails unless a memory tells of its frames and words what the model does.
func mustAgree(t *testing.T, what any, f *frames.Frames, m *model) {
	t.Helper()
	if f.Free() != m.free() {
		t.Fatalf("%v: %d are free, want %d", what, f.Free(), m.free())
	}
	for k := -1; k <= len(m.taken); k++ {
		if f.Taken(k) != m.has(k) {
			t.Fatalf("%v: Taken(%d): %v", what, k, f.Taken(k))
		}
		for i := range api.Fan {
			want := uint64(0)
			if m.has(k) {
				want = m.words[k][i]
			}
			if got, ok := f.Load(k, i); got != want || ok != m.has(k) {
				t.Fatalf("%v: Load(%d, %d): %d, %v, want %d", what, k, i, got, ok, want)
			}
		}
	}
}

// TestEveryOrder goes through all orders of eight calls of Take and Give on three frames.
func TestEveryOrder(t *testing.T) {
	const frameCount, calls, kinds = 3, 8, 4
	for order := range 1 << (2 * calls) {
		f, m := memory(t, frameCount), newModel(frameCount)
		for rest, call := order, 0; call < calls; rest, call = rest/kinds, call+1 {
			k := rest%kinds - 1
			if k < 0 {
				if got, want := f.Take(), m.take(); got != want {
					t.Fatalf("order %d, call %d: Take: %d, want %d", order, call, got, want)
				}
			} else if got, want := f.Give(k), m.give(k); got != want {
				t.Fatalf("order %d, call %d: Give(%d): %v, want %v", order, call, k, got, want)
			}
		}
		mustAgree(t, order, f, m)
	}
}

// TestLongRuns goes on for long with calls of every kind, by a fixed rule, on memories of several counts.
func TestLongRuns(t *testing.T) {
	for _, n := range []int{0, 1, 2, 7, 40, api.MaxFrames} {
		f, m := memory(t, n), newModel(n)
		state := uint64(n + 1)
		below := func(end int) int {
			state = state*6364136223846793005 + 1442695040888963407
			return int(state>>33) % end
		}
		for call := range 6000 {
			// More are taken than given in the one half of a run, and fewer in the other.
			mostly := call / 500 % 2
			k, i, word := below(n+2)-1, below(api.Fan), uint64(below(3))
			switch kind := below(5); {
			case kind == 0 || kind == 1 && mostly == 0:
				mustSame(t, "Take", f.Take(), m.take())
			case kind == 1 || kind == 2:
				mustSame(t, "Give", f.Give(k), m.give(k))
			case kind == 3:
				mustSame(t, "Store", f.Store(k, i, word), m.has(k))
				if m.has(k) {
					m.words[k][i] = word
				}
			default:
				so := m.has(k) && m.words[k][i] == word
				mustSame(t, "Swap", f.Swap(k, i, word, word+7), so)
				if so {
					m.words[k][i] = word + 7
				}
			}
			if call%50 == 0 {
				mustAgree(t, call, f, m)
			}
		}
		mustAgree(t, n, f, m)
	}
}
