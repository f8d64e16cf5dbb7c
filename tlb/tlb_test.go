package tlb_test

import (
	"testing"

	"wayleave/api"
	"wayleave/page"
	"wayleave/tlb"
)

func TestNew(t *testing.T) {
	c := tlb.New()
	if c == nil {
		t.Fatal("New: nil")
	}
	mustBe(t, c)
	mustEvict(t, c, false)
	for p := range api.Pages {
		for size, span := range spans {
			mustDrop(t, c, api.Map{Page: p - p%span, Size: size}, 0)
		}
	}
	mustEvict(t, c, false)
	mustBe(t, c)
}

func TestFindAtTheEdgesOfALine(t *testing.T) {
	for size, span := range spans {
		for _, p := range []int{0, 64, 1024, 4032, last} {
			l := line(p, size, true)
			c := kept(t, l)
			first, end := l.M.Page, l.M.Page+span-1
			mustFind(t, c, first-1, tlb.Line{}, false)
			mustFind(t, c, first, l, true)
			mustFind(t, c, end, l, true)
			mustFind(t, c, end+1, tlb.Line{}, false)
			mustBe(t, c, l)
		}
	}
}

func TestFindLinesSideBySide(t *testing.T) {
	lines := []tlb.Line{line(64, api.Huge, true), line(128, api.Large, false), line(136, api.Small, true), line(137, api.Small, false), line(56, api.Large, false), line(192, api.Huge, false)}
	c := kept(t, lines...)
	for _, x := range []struct{ p, place int }{{56, 4}, {63, 4}, {64, 0}, {127, 0}, {128, 1}, {135, 1}, {136, 2}, {137, 3}, {192, 5}, {255, 5}} {
		mustFind(t, c, x.p, lines[x.place], true)
	}
	for _, p := range []int{55, 138, 191, 256} {
		mustFind(t, c, p, tlb.Line{}, false)
	}
	mustBe(t, c, lines...)
}

// A look is no use: what is found is not younger for it.
func TestFindChangesNothing(t *testing.T) {
	lines := row(100, api.MaxTLB)
	c := kept(t, lines...)
	for range 3 {
		mustFind(t, c, 100, lines[0], true)
	}
	mustBe(t, c, lines...)
	one := line(200, api.Small, false)
	mustPut(t, c, one, true)
	mustBe(t, c, append(lines[1:], one)...)
}

func TestPutOne(t *testing.T) {
	for size, span := range spans {
		for _, p := range []int{0, span, 1024, 4032, api.Pages - span} {
			for _, frame := range []int{0, span, api.MaxData - span} {
				for rights := range 8 {
					l := tlb.Line{M: api.Map{Page: p - p%span, Size: size, Frame: frame, Rights: rights}, Dirty: rights%2 == 0}
					c := kept(t, l)
					mustSameList(t, "List", c.List(), []tlb.Line{l})
					mustFind(t, c, l.M.Page, l, true)
				}
			}
		}
	}
}

// From MaxTLB on, each line more costs the oldest one.
func TestPutManyThatDoNotMeet(t *testing.T) {
	lines := row(100, 3*api.MaxTLB)
	c := tlb.New()
	for n, l := range lines {
		mustPut(t, c, l, true)
		mustBe(t, c, lines[max(0, n+1-api.MaxTLB):n+1]...)
	}
}

func TestPutWhereOneIsFreeAndWhereNoneIs(t *testing.T) {
	one := line(640, api.Huge, true)
	for _, count := range []int{api.MaxTLB - 1, api.MaxTLB, api.MaxTLB + 1} {
		lines := row(100, count)
		c := kept(t, lines...)
		mustPut(t, c, one, true)
		all := append(lines, one)
		mustBe(t, c, all[len(all)-api.MaxTLB:]...)
	}
}

// Where MaxTLB lines are kept and one of them goes, no other does.
func TestPutOnOneWhereMaxAreKept(t *testing.T) {
	for place := range api.MaxTLB {
		for _, dirty := range []bool{false, true} {
			lines := row(100, api.MaxTLB)
			c := kept(t, lines...)
			again := lines[place]
			again.M.Frame, again.M.Rights, again.Dirty = 77, 7, dirty
			mustPut(t, c, again, true)
			var want []tlb.Line
			for i, l := range lines {
				if i != place {
					want = append(want, l)
				}
			}
			mustBe(t, c, append(want, again)...)
		}
	}
}

func TestPutThatMeetsNoneOneSeveralAll(t *testing.T) {
	a, b, c, d := line(64, api.Small, true), line(72, api.Large, false), line(127, api.Small, true), line(128, api.Huge, false)
	lines := []tlb.Line{a, d, b, c}
	tests := []struct {
		what string
		l    tlb.Line
		want []tlb.Line
	}{
		{"none, behind the first", line(65, api.Small, false), []tlb.Line{a, d, b, c}},
		{"none, ahead of all", line(63, api.Small, true), []tlb.Line{a, d, b, c}},
		{"none, behind all", line(192, api.Huge, true), []tlb.Line{a, d, b, c}},
		{"none, between", line(80, api.Large, true), []tlb.Line{a, d, b, c}},
		{"one, the oldest", line(64, api.Large, false), []tlb.Line{d, b, c}},
		{"one, by its first page", line(72, api.Small, true), []tlb.Line{a, d, c}},
		{"one, by its last page", line(79, api.Small, true), []tlb.Line{a, d, c}},
		{"one, the youngest", line(120, api.Large, true), []tlb.Line{a, d, b}},
		{"one, within it", line(184, api.Large, true), []tlb.Line{a, b, c}},
		{"several, round them", line(64, api.Huge, true), []tlb.Line{d}},
	}
	for _, x := range tests {
		t.Run(x.what, func(t *testing.T) {
			k := kept(t, lines...)
			mustPut(t, k, x.l, true)
			mustBe(t, k, append(x.want, x.l)...)
		})
	}
	k := kept(t, a, b, c)
	round := line(64, api.Huge, false)
	mustPut(t, k, round, true)
	mustBe(t, k, round)
}

// Those that meet go ahead of the oldest one: where one goes, there are MaxTLB no more.
func TestPutThatMeetsAllOfMax(t *testing.T) {
	for _, size := range []int{api.Large, api.Huge} {
		round := line(64, size, true)
		c := kept(t, row(64, api.MaxTLB)...)
		mustPut(t, c, round, true)
		mustBe(t, c, round)
	}
}

func TestPutThatMeetsSeveralOfMax(t *testing.T) {
	far := row(500, api.MaxTLB-2)
	near := []tlb.Line{line(8, api.Small, true), line(15, api.Small, false)}
	round := line(8, api.Large, false)
	for split := range len(far) + 1 {
		lines := append([]tlb.Line{near[0]}, far[:split]...)
		lines = append(append(lines, near[1]), far[split:]...)
		c := kept(t, lines...)
		mustPut(t, c, round, true)
		mustBe(t, c, append(far[:len(far):len(far)], round)...)
	}
}

func TestPutTheSameMappingAgain(t *testing.T) {
	for size := range spans {
		for _, was := range []bool{false, true} {
			for _, is := range []bool{false, true} {
				first, other, again := line(64, size, was), line(256, api.Small, true), line(64, size, is)
				c := kept(t, first, other)
				mustPut(t, c, again, true)
				mustBe(t, c, other, again)
				mustPut(t, c, again, true)
				mustBe(t, c, other, again)
				mustDrop(t, c, again.M, 1)
				mustBe(t, c, other)
			}
		}
	}
}

// A mapping is met by its pages alone, whatever its frame and rights.
func TestPutSamePagesOtherwise(t *testing.T) {
	for size, span := range spans {
		l := line(1024, size, true)
		c := kept(t, l)
		l.M.Frame, l.M.Rights, l.Dirty = 3*span, 5, false
		mustPut(t, c, l, true)
		mustBe(t, c, l)
	}
}

// Of each two sizes, the one is put where the other is, ahead of it and behind it.
func TestPutEachSizeOnEach(t *testing.T) {
	for was := range spans {
		for is := range spans {
			for p := 0; p < 256; p++ {
				first, second := line(64, was, true), line(p, is, false)
				c := kept(t, first)
				mustPut(t, c, second, true)
				if meets(first.M, second.M) {
					mustSameList(t, "List", c.List(), []tlb.Line{second})
				} else {
					mustSameList(t, "List", c.List(), []tlb.Line{first, second})
				}
			}
		}
	}
}

func TestPutOfNoMapping(t *testing.T) {
	full := []tlb.Line{line(0, api.Small, true), line(1, api.Small, false), line(8, api.Large, true), line(64, api.Huge, false), line(4032, api.Huge, true), line(128, api.Small, false)}
	for code, wrong := range noMappings() {
		for _, m := range wrong {
			if got := page.Check(m); got != code {
				t.Fatalf("Check(%v): %d, want %d", m, got, code)
			}
			for count := range len(full) + 1 {
				c := kept(t, full[:count]...)
				mustPut(t, c, tlb.Line{M: m}, false)
				mustPut(t, c, tlb.Line{M: m, Dirty: true}, false)
				mustSameList(t, "List", c.List(), full[:count])
			}
			c := kept(t, full...)
			mustPut(t, c, tlb.Line{M: m, Dirty: true}, false)
			mustBe(t, c, full...)
		}
	}
}

func TestDrop(t *testing.T) {
	a, b, c, d := line(64, api.Small, true), line(72, api.Large, false), line(127, api.Small, true), line(128, api.Huge, false)
	tests := []struct {
		what string
		m    api.Map
		want []tlb.Line
	}{
		{"none, ahead of all", api.Map{Page: 63}, []tlb.Line{d, a, c, b}},
		{"none, behind all", api.Map{Page: 192, Size: api.Huge}, []tlb.Line{d, a, c, b}},
		{"none, between", api.Map{Page: 80, Size: api.Large}, []tlb.Line{d, a, c, b}},
		{"the oldest, by its first page", api.Map{Page: 128}, []tlb.Line{a, c, b}},
		{"the oldest, by its last page", api.Map{Page: 191}, []tlb.Line{a, c, b}},
		{"the oldest, within it", api.Map{Page: 136, Size: api.Large}, []tlb.Line{a, c, b}},
		{"one of the middle", api.Map{Page: 64}, []tlb.Line{d, c, b}},
		{"one of the middle, round it", api.Map{Page: 120, Size: api.Large}, []tlb.Line{d, a, b}},
		{"the youngest, by its first page", api.Map{Page: 72}, []tlb.Line{d, a, c}},
		{"the youngest, by its last page", api.Map{Page: 79}, []tlb.Line{d, a, c}},
		{"the youngest, with other frames and rights", api.Map{Page: 72, Size: api.Large, Frame: 8, Rights: 7}, []tlb.Line{d, a, c}},
		{"three", api.Map{Page: 64, Size: api.Huge}, []tlb.Line{d}},
	}
	for _, x := range tests {
		t.Run(x.what, func(t *testing.T) {
			k := kept(t, d, a, c, b)
			mustDrop(t, k, x.m, 4-len(x.want))
			mustBe(t, k, x.want...)
			mustDrop(t, k, x.m, 0)
			mustBe(t, k, x.want...)
		})
	}
}

func TestDropAll(t *testing.T) {
	for count := range api.MaxTLB + 1 {
		c := kept(t, row(64, count)...)
		mustDrop(t, c, api.Map{Page: 64, Size: api.Huge}, count)
		mustBe(t, c)
		mustEvict(t, c, false)
		again := row(66, api.MaxTLB)
		for _, l := range again {
			mustPut(t, c, l, true)
		}
		mustBe(t, c, again...)
	}
}

// Of what is no mapping, those go that page.Meet names: a size that is none has no page, but its Page may be a line's.
func TestDropOfNoMapping(t *testing.T) {
	lines := []tlb.Line{line(0, api.Small, true), line(7, api.Small, false), line(8, api.Large, true), line(64, api.Huge, false), line(4032, api.Huge, true), line(128, api.Small, false)}
	for _, wrong := range noMappings() {
		for _, m := range wrong {
			var want []tlb.Line
			for _, l := range lines {
				if !meets(l.M, m) {
					want = append(want, l)
				}
			}
			c := kept(t, lines...)
			mustDrop(t, c, m, len(lines)-len(want))
			mustBe(t, c, want...)
		}
	}
	c := kept(t, lines...)
	mustDrop(t, c, api.Map{Page: 9, Size: 3}, 1)
	mustDrop(t, c, api.Map{Page: 5, Size: api.Large}, 1)
	mustDrop(t, c, api.Map{Page: -63, Size: api.Huge}, 1)
	mustDrop(t, c, api.Map{Page: -64, Size: api.Huge}, 0)
	mustDrop(t, c, api.Map{Page: api.Pages, Size: api.Huge}, 0)
	mustDrop(t, c, api.Map{Page: last, Size: api.Huge, Frame: -1, Rights: -1}, 1)
	mustBe(t, c, lines[3], lines[5])
}

func TestEvict(t *testing.T) {
	for count := range api.MaxTLB + 1 {
		lines := row(100, count)
		c := kept(t, lines...)
		for n := range lines {
			mustEvict(t, c, true)
			mustBe(t, c, lines[n+1:]...)
		}
		mustEvict(t, c, false)
		mustEvict(t, c, false)
		mustBe(t, c)
		one := line(64, api.Huge, true)
		mustPut(t, c, one, true)
		mustBe(t, c, one)
	}
}

// The oldest one is that which was put first, whatever its page, size and Dirty.
func TestListHasTheOldestFirst(t *testing.T) {
	lines := []tlb.Line{line(64, api.Huge, true), line(128, api.Large, false), line(136, api.Small, true), line(0, api.Small, false), line(last, api.Small, true), line(56, api.Large, false)}
	for _, order := range orders(lines) {
		c := kept(t, order...)
		mustSameList(t, "List", c.List(), order)
		mustEvict(t, c, true)
		mustSameList(t, "List", c.List(), order[1:])
		mustDrop(t, c, order[3].M, 1)
		mustPut(t, c, order[0], true)
		mustSameList(t, "List", c.List(), []tlb.Line{order[1], order[2], order[4], order[5], order[0]})
	}
}

// A list that was told stays as it was, whatever is asked later on.
func TestListIsNotChangedLater(t *testing.T) {
	changes := map[string]func(c *tlb.TLB){
		"Put":           func(c *tlb.TLB) { c.Put(line(300, api.Small, true)) },
		"Put again":     func(c *tlb.TLB) { c.Put(line(101, api.Small, true)) },
		"Put round all": func(c *tlb.TLB) { c.Put(line(96, api.Huge, true)) },
		"Drop one":      func(c *tlb.TLB) { c.Drop(api.Map{Page: 100}) },
		"Drop all":      func(c *tlb.TLB) { c.Drop(api.Map{Page: 64, Size: api.Huge}) },
		"Evict":         func(c *tlb.TLB) { c.Evict() },
	}
	for what, change := range changes {
		for count := range api.MaxTLB + 1 {
			want := row(100, count)
			c := kept(t, want...)
			list := c.List()
			change(c)
			mustSameList(t, "the list ahead of "+what, list, want)
		}
	}
}

// What is done to a list, in its length or behind it, is done neither to the TLB nor to another list.
func TestListIsNewMemory(t *testing.T) {
	for count := range api.MaxTLB + 1 {
		want := row(100, count)
		c := kept(t, want...)
		one, other := c.List(), c.List()
		room := one[:cap(one)]
		for i := range room {
			room[i] = line(900, api.Huge, true)
		}
		_ = append(one, line(901, api.Small, true))
		mustSameList(t, "another list", other, want)
		mustBe(t, c, want...)
		more := line(300, api.Small, false)
		mustPut(t, c, more, true)
		mustBe(t, c, append(want, more)[max(0, count+1-api.MaxTLB):]...)
		for i := range room {
			room[i] = tlb.Line{}
		}
		mustBe(t, c, append(want, more)[max(0, count+1-api.MaxTLB):]...)
	}
}

func TestTwoHaveNothingInCommon(t *testing.T) {
	one, other := tlb.New(), tlb.New()
	if one == other {
		t.Fatal("New: the same TLB twice")
	}
	lines, others := row(100, api.MaxTLB), row(102, api.MaxTLB)
	for i := range lines {
		mustPut(t, one, lines[i], true)
		mustBe(t, other, others[:i]...)
		mustPut(t, other, others[i], true)
		mustBe(t, one, lines[:i+1]...)
	}
	mustEvict(t, one, true)
	mustBe(t, other, others...)
	mustDrop(t, other, lines[3].M, 1)
	mustBe(t, one, lines[1:]...)
	mustDrop(t, one, api.Map{Page: 64, Size: api.Huge}, api.MaxTLB-1)
	mustBe(t, other, others[0], others[2], others[3], others[4], others[5])
	mustBe(t, tlb.New())
}
