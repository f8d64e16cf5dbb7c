package table_test

import (
	"slices"
	"testing"

	"wayleave/api"
	"wayleave/entry"
	"wayleave/frames"
	"wayleave/page"
	"wayleave/table"
)

// stop is a place on a way, and what stands there.
type stop struct {
	table, place, level int
	e                   api.Entry
}

// way says what the chapters say of the way to a page, one level behind the other.
func (m *memory) way(root, p int) ([]stop, int) {
	if p < 0 || p >= api.Pages {
		return nil, api.ErrRange
	}
	way := []stop{{e: api.Entry{There: true, Frame: root}}}
	for level := top; way[len(way)-1].e.There && !way[len(way)-1].e.Leaf; level-- {
		k := way[len(way)-1].e.Frame
		if !m.taken(k) {
			return nil, api.ErrFree
		}
		e, code := entry.Decode(m.words[k][place(p, level)], level)
		if code != 0 {
			return nil, code
		}
		way = append(way, stop{k, place(p, level), level, e})
	}
	return way[1:], 0
}

// leafOn tells the way to a page that has a mapping, and that mapping.
func (m *memory) leafOn(root, p int) ([]stop, api.Map, int) {
	way, code := m.way(root, p)
	if code != 0 {
		return nil, api.Map{}, code
	}
	end := way[len(way)-1]
	if !end.e.Leaf {
		return nil, api.Map{}, api.ErrNone
	}
	return way, aligned(p, end.level, end.e.Frame, end.e.Rights), 0
}

func (m *memory) insert(root int, x api.Map) int {
	if code := page.Check(x); code != 0 {
		return code
	}
	way, code := m.way(root, x.Page)
	if code != 0 {
		return code
	}
	for _, s := range way {
		if s.e.Leaf || s.level == x.Size && s.e.There {
			return api.ErrThere
		}
	}
	end := way[len(way)-1]
	if len(m.free) < end.level-x.Size {
		return api.ErrFull
	}
	word := &m.words[end.table][end.place]
	for level := end.level - 1; level >= x.Size; level-- {
		k := m.free[0]
		m.free = m.free[1:]
		*word = leads(k)
		m.words[k] = table8{}
		word = &m.words[k][place(x.Page, level)]
	}
	*word = leaf(x.Size, x.Frame, x.Rights, 0)
	return 0
}

func (m *memory) remove(root, p int) (api.Map, []int, int) {
	way, x, code := m.leafOn(root, p)
	if code != 0 {
		return api.Map{}, nil, code
	}
	var gone []int
	for i := len(way) - 1; ; i-- {
		m.words[way[i].table][way[i].place] = 0
		if i == 0 || m.words[way[i].table] != (table8{}) {
			return x, gone, 0
		}
		gone = append(gone, way[i].table)
	}
}

func (m *memory) protect(root, p, rights int) (api.Map, int) {
	if rights < 0 || rights > 7 {
		return api.Map{}, api.ErrRange
	}
	way, x, code := m.leafOn(root, p)
	if code != 0 {
		return api.Map{}, code
	}
	end := way[len(way)-1]
	m.words[end.table][end.place] = m.words[end.table][end.place]&^(7<<1) | uint64(rights)<<1
	x.Rights = rights
	return x, 0
}

func (m *memory) find(root, p int) (api.Map, api.Entry, int) {
	way, x, code := m.leafOn(root, p)
	if code != 0 {
		return api.Map{}, api.Entry{}, code
	}
	return x, way[len(way)-1].e, 0
}

// asked is what may be asked of tables: 0 is Insert of m, 1 Remove, 2 Protect, 3 Find of its page.
type asked struct {
	kind int
	m    api.Map
}

// mustAgree asks the program and the model the same, and fails unless they answer the same; the code is told, and which tables went.
func mustAgree(t *testing.T, f *frames.Frames, m *memory, root int, x asked) (int, []int) {
	t.Helper()
	p, rights := x.m.Page, x.m.Rights
	switch x.kind {
	case 0:
		code := m.insert(root, x.m)
		mustInsert(t, f, root, x.m, code)
		return code, nil
	case 1:
		want, wantGone, wantCode := m.remove(root, p)
		if got, gone, code := table.Remove(f, root, p); got != want || !slices.Equal(gone, wantGone) || code != wantCode {
			t.Fatalf("Remove(%d, %d): %v, %v, %d, want %v, %v, %d", root, p, got, gone, code, want, wantGone, wantCode)
		}
		return wantCode, wantGone
	case 2:
		want, wantCode := m.protect(root, p, rights)
		if got, code := table.Protect(f, root, p, rights); got != want || code != wantCode {
			t.Fatalf("Protect(%d, %d, %d): %v, %d, want %v, %d", root, p, rights, got, code, want, wantCode)
		}
		return wantCode, nil
	}
	want, wantEntry, wantCode := m.find(root, p)
	if got, e, code := table.Find(f, root, p); got != want || e != wantEntry || code != wantCode {
		t.Fatalf("Find(%d, %d): %v, %v, %d, want %v, %v, %d", root, p, got, e, code, want, wantEntry, wantCode)
	}
	return wantCode, nil
}

// mustHaveSeen fails if one of these codes was never told.
func mustHaveSeen(t *testing.T, seen map[int]int, codes ...int) {
	t.Helper()
	for _, code := range codes {
		if seen[code] == 0 {
			t.Errorf("the code %d was never told: %v", code, seen)
		}
	}
}

// TestEveryTableOfThree goes through all memories of three frames in each of which two words are nothing, a leaf, a wrong word, or lead to one of four frames, the last of which is free.
func TestEveryTableOfThree(t *testing.T) {
	words := []uint64{0, leaf(1, 64, 5, used), 2, leads(0), leads(1), leads(2), leads(3)}
	places := []struct{ table, place int }{{0, 0}, {0, 7}, {1, 0}, {1, 7}, {2, 0}, {2, 7}}
	pages := []int{0, 7, 7 * 8, 7 * 64, 7 * 512, 7*64 + 7, 7*512 + 7*8, last}
	var calls []asked
	for _, p := range pages {
		for size := range top {
			calls = append(calls, asked{0, aligned(p, size, 128, 3)})
		}
		for kind := 1; kind <= 3; kind++ {
			calls = append(calls, asked{kind, api.Map{Page: p, Rights: 6}})
		}
	}
	seen := map[int]int{}
	orders := 1
	for range places {
		orders *= len(words)
	}
	m := blank(5, 4, 3)
	for order := range orders {
		rest := order
		for _, x := range places {
			m.words[x.table][x.place] = words[rest%len(words)]
			rest /= len(words)
		}
		// Some of the calls are made of each memory, others of the next one, which differs by a word: so all are made of each kind.
		for n := order % 11; n < len(calls); n += 11 {
			f, now := m.lay(t), m.clone()
			code, _ := mustAgree(t, f, now, 0, calls[n])
			mustBe(t, f, now)
			seen[code]++
		}
	}
	mustHaveSeen(t, seen, 0, api.ErrThere, api.ErrNone, api.ErrFull, api.ErrBits, api.ErrKind, api.ErrFree)
}

// run tells numbers below an end, by a fixed rule.
func run(seed int) func(end int) int {
	state := uint64(seed + 1)
	return func(end int) int {
		state = state*6364136223846793005 + 1442695040888963407
		return int(state>>33) % end
	}
}

// TestLongRuns goes on with calls on memories whose words are laid by a fixed rule, so that tables are led to several times, and go in part.
func TestLongRuns(t *testing.T) {
	seen := map[int]int{}
	for seed, count := range []int{1, 2, 3, 4, 6, 9, 16, 40, api.MaxFrames} {
		below := run(seed)
		for range 20 {
			m := blank(count)
			for n := range 2 * count {
				k := n % count
				words := []uint64{0, leads(below(count)), leads(below(count)), leaf(below(3), 64*below(99), below(8), marks[below(4)])}
				m.words[k][below(api.Fan)] = words[below(len(words))]
			}
			for k := 1; k < count; k++ {
				if below(3) == 0 {
					m.free = append(m.free, k)
				}
			}
			f := m.lay(t)
			for range 400 {
				// Pages of few places, so that ways often go where others went.
				p := below(2)*512*3 + below(2)*64*5 + below(2)*8*5 + below(2)*6
				x := asked{below(4), aligned(p, below(3), 64*below(99), below(9))}
				code, gone := mustAgree(t, f, m, below(min(count, 3)), x)
				seen[code]++
				mustHold(t, f, m)
				for _, k := range gone {
					if below(2) == 0 && f.Give(k) {
						m.free = slices.Insert(m.free, 0, k)
					}
				}
			}
			mustBe(t, f, m)
		}
	}
	mustHaveSeen(t, seen, 0, api.ErrRange, api.ErrThere, api.ErrNone, api.ErrFull, api.ErrFree, api.ErrBits, api.ErrKind)
}
