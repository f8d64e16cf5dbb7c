package table_test

import (
	"slices"
	"testing"

	"wayleave/api"
	"wayleave/book"
	"wayleave/frames"
	"wayleave/table"
	"wayleave/walk"
)

// pair is tables and a book of which the same is asked.
type pair struct {
	f     *frames.Frames
	root  int
	b     *book.Book
	gone  []int // those that went, and were not given back
	fulls int   // how often there was no frame
}

// newPair tells an empty root, at which tables and an empty book say the same: nothing.
func newPair(t *testing.T, n, others int) *pair {
	t.Helper()
	f, fault := frames.New(n)
	if fault != (api.Fault{}) {
		t.Fatalf("New(%d): %v", n, fault)
	}
	x := &pair{f: f, root: f.Take(), b: book.New()}
	for range others {
		x.gone = append(x.gone, f.Take())
	}
	return x
}

// insert asks both; where there is no frame, the book is asked nothing that it would do.
func (x *pair) insert(t *testing.T, m api.Map) {
	t.Helper()
	code := table.Insert(x.f, x.root, m)
	if code == api.ErrFull {
		x.fulls++
		if want := x.b.Copy().Add(m); want != 0 {
			t.Fatalf("Insert of %v: ErrFull, want %d", m, want)
		}
		return
	}
	if want := x.b.Add(m); code != want {
		t.Fatalf("Insert of %v: %d, want %d", m, code, want)
	}
}

func (x *pair) remove(t *testing.T, p int) {
	t.Helper()
	m, gone, code := table.Remove(x.f, x.root, p)
	x.gone = append(x.gone, gone...)
	if want, wantCode := x.b.Drop(p); m != want || code != wantCode {
		t.Fatalf("Remove of %d: %v, %d, want %v, %d", p, m, code, want, wantCode)
	}
}

func (x *pair) protect(t *testing.T, p, rights int) {
	t.Helper()
	m, code := table.Protect(x.f, x.root, p, rights)
	if want, wantCode := x.b.Protect(p, rights); m != want || code != wantCode {
		t.Fatalf("Protect of %d: %v, %d, want %v, %d", p, m, code, want, wantCode)
	}
}

func (x *pair) find(t *testing.T, p int) {
	t.Helper()
	want, found := x.b.Find(p)
	wantEntry, wantCode := api.Entry{}, 0
	switch {
	case found:
		wantEntry = api.Entry{There: true, Leaf: true, Rights: want.Rights, Frame: want.Frame}
	case p < 0 || p > last:
		wantCode = api.ErrRange
	default:
		wantCode = api.ErrNone
	}
	if m, e, code := table.Find(x.f, x.root, p); m != want || e != wantEntry || code != wantCode {
		t.Fatalf("Find of %d: %v, %v, %d, want %v, %v, %d", p, m, e, code, want, wantEntry, wantCode)
	}
}

// giveBack gives all tables back that went.
func (x *pair) giveBack(t *testing.T) {
	t.Helper()
	for _, k := range x.gone {
		if !x.f.Give(k) {
			t.Fatalf("the table %d went, and is not in use", k)
		}
	}
	x.gone = nil
}

// mustSayTheSame fails unless tables have the book's mappings, none but the root is empty, each is led to once, and all frames in use are tables, or went.
func (x *pair) mustSayTheSame(t *testing.T, n int) {
	t.Helper()
	if maps, code := walk.List(x.f, x.root); !slices.Equal(maps, x.b.List()) || code != 0 {
		t.Fatalf("the tables say %v, %d, the book %v", maps, code, x.b.List())
	}
	tables, _ := walk.Tables(x.f, x.root)
	for _, k := range tables[1:] {
		empty := true
		for i := range api.Fan {
			word, _ := x.f.Load(k, i)
			empty = empty && word == 0
		}
		if empty {
			t.Fatalf("the table %d is empty", k)
		}
	}
	all := append(slices.Clone(tables), x.gone...)
	slices.Sort(all)
	if len(slices.Compact(slices.Clone(all))) != len(all) {
		t.Fatalf("of %v one is led to twice, or went and is led to", all)
	}
	for _, k := range all {
		if !x.f.Taken(k) {
			t.Fatalf("%d is not in use", k)
		}
	}
	if x.f.Free() != n-len(all) {
		t.Fatalf("%d frames are free of %d, tables are %v", x.f.Free(), n, all)
	}
}

// TestBookInEveryOrder goes through all orders of four calls out of twelve, on mappings that meet and that do not, with enough frames and with few.
func TestBookInEveryOrder(t *testing.T) {
	calls := []asked{
		{0, api.Map{Page: 64, Size: api.Huge, Frame: 64, Rights: 1}},
		{0, api.Map{Page: 64, Size: api.Large, Frame: 8, Rights: 2}},
		{0, api.Map{Page: 72, Size: api.Large, Frame: 16, Rights: 3}},
		{0, api.Map{Page: 71, Frame: 3, Rights: 4}},
		{0, api.Map{Page: 63, Frame: 4, Rights: 5}},
		{0, api.Map{Page: 512, Frame: 5, Rights: 6}},
		{1, api.Map{Page: 63}},
		{1, api.Map{Page: 71}},
		{1, api.Map{Page: 127}},
		{1, api.Map{Page: 512}},
		{2, api.Map{Page: 71, Rights: 7}},
		{2, api.Map{Page: 64, Rights: 8}},
	}
	count, fulls := len(calls), 0
	for _, n := range []int{4, 5, 12} {
		for order := range count * count * count * count {
			x := newPair(t, n, 0)
			for rest, i := order, 0; i < 4; rest, i = rest/count, i+1 {
				x.ask(t, calls[rest%count])
				if order%2 == 0 {
					x.giveBack(t)
				}
			}
			x.mustSayTheSame(t, n)
			fulls += x.fulls
			if n == 12 && x.fulls != 0 {
				t.Fatalf("of 12 frames none was free")
			}
		}
	}
	if fulls == 0 {
		t.Error("there was always a free frame")
	}
}

func (x *pair) ask(t *testing.T, call asked) {
	t.Helper()
	switch call.kind {
	case 0:
		x.insert(t, call.m)
	case 1:
		x.remove(t, call.m.Page)
	case 2:
		x.protect(t, call.m.Page, call.m.Rights)
	}
	x.find(t, call.m.Page)
}

// TestBookInLongRuns goes on for long with calls of every kind, by a fixed rule; then all mappings go, and all frames but the root are free.
func TestBookInLongRuns(t *testing.T) {
	fulls := 0
	for seed, c := range []struct{ low, end, frames, others int }{
		{-1, 20, 5, 0}, {-1, 140, 30, 3}, {api.Pages - 20, api.Pages + 1, 9, 1}, {api.Pages - 140, api.Pages + 1, 12, 0},
		{-1, api.Pages + 1, api.MaxFrames, 0}, {-1, api.Pages + 1, 20, 2}, {-1, api.Pages + 1, 1, 0},
	} {
		below := run(seed)
		x := newPair(t, c.frames, c.others)
		for range 3000 {
			m := api.Map{Page: c.low + below(c.end-c.low), Size: below(4), Frame: below(1000) * 64, Rights: below(9)}
			if m.Size < top && below(8) > 0 {
				// Few pages are a mapping's first one: most calls are to name one that is.
				m.Page -= m.Page % spans[m.Size]
			}
			x.ask(t, asked{below(4) % 3, m})
			if below(3) == 0 {
				x.giveBack(t)
			}
			x.mustSayTheSame(t, c.frames)
		}
		for _, m := range x.b.List() {
			x.remove(t, m.Page+below(spans[m.Size]))
			x.mustSayTheSame(t, c.frames)
		}
		x.giveBack(t)
		if !x.f.Taken(x.root) || x.f.Free() != c.frames-1 {
			t.Fatalf("%d of %d frames are free when nothing is mapped", x.f.Free(), c.frames)
		}
		for i := range api.Fan {
			if word, _ := x.f.Load(x.root, i); word != 0 {
				t.Errorf("the root's word %d is %#x when nothing is mapped", i, word)
			}
		}
		fulls += x.fulls
	}
	if fulls == 0 {
		t.Error("there was always a free frame")
	}
}
