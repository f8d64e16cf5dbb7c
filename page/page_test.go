package page_test

import (
	"fmt"
	"math"
	"math/big"
	"testing"

	"wayleave/api"
	"wayleave/page"
)

// edges are numbers at which an answer may change, and numbers far from all of them.
var edges = []int{
	math.MinInt, math.MinInt + 1, -1 << 32, -4097, -4096, -64, -8, -1,
	0, 1, 2, 3, 4, 7, 8, 9, 15, 16, 63, 64, 65, 511, 512, 4032, 4088, 4095, 4096, 4097,
	1<<20 - 64, 1<<20 - 8, 1<<20 - 1, 1 << 20, 1<<20 + 1, 1 << 32, math.MaxInt - 63, math.MaxInt - 1, math.MaxInt,
}

// sizes are the three sizes, and numbers that are none.
var sizes = []int{math.MinInt, -3, -2, -1, api.Small, api.Large, api.Huge, 3, 4, 8, 64, 256, 1 << 32, math.MaxInt}

// spans are the pages of each size, as the chapter's head counts them.
var spans = map[int]int{api.Small: 1, api.Large: 8, api.Huge: 64}

func TestSpan(t *testing.T) {
	for _, size := range sizes {
		if got, want := page.Span(size), spans[size]; got != want {
			t.Errorf("Span(%d): %d, want %d", size, got, want)
		}
	}
}

func TestHas(t *testing.T) {
	for p := range 4096 {
		if !page.Has(p) {
			t.Errorf("Has(%d): false", p)
		}
	}
	for _, p := range []int{math.MinInt, math.MinInt + 4096, -4096, -1, 4096, 4097, 1 << 20, 1 << 32, math.MaxInt} {
		if page.Has(p) {
			t.Errorf("Has(%d): true", p)
		}
	}
}

// The places of a page, the root's first, are its digits to the base 8.
func TestIndexIsADigit(t *testing.T) {
	for p := range 4096 {
		digits := fmt.Sprintf("%04o", p)
		for level := range 4 {
			if got, want := page.Index(p, level), int(digits[3-level]-'0'); got != want {
				t.Errorf("Index(%d, %d): %d, want %d", p, level, got, want)
			}
		}
	}
}

func TestIndexOfNone(t *testing.T) {
	for _, p := range edges {
		for _, level := range edges {
			isOne := p >= 0 && p <= 4095 && level >= 0 && level <= 3
			if got := page.Index(p, level); (got == -1) == isOne {
				t.Errorf("Index(%d, %d): %d", p, level, got)
			}
		}
	}
}

func TestCheck(t *testing.T) {
	tests := []struct {
		what string
		m    api.Map
		want int
	}{
		{"all zero", api.Map{}, 0},
		{"the last page", api.Map{Page: 4095, Frame: 1<<20 - 1, Rights: 7}, 0},
		{"the last large one", api.Map{Page: 4088, Size: api.Large, Frame: 1<<20 - 8, Rights: 7}, 0},
		{"the last huge one", api.Map{Page: 4032, Size: api.Huge, Frame: 1<<20 - 64, Rights: 7}, 0},
		{"page and frame with other multiples", api.Map{Page: 8, Size: api.Large, Frame: 24, Rights: 5}, 0},
		{"a small one at odd places", api.Map{Page: 7, Frame: 13}, 0},

		{"a size above", api.Map{Size: 3}, api.ErrKind},
		{"a size below", api.Map{Size: -1}, api.ErrKind},
		{"the greatest size", api.Map{Size: math.MaxInt}, api.ErrKind},
		{"the least size", api.Map{Size: math.MinInt}, api.ErrKind},

		{"the first page that is none", api.Map{Page: 4096}, api.ErrRange},
		{"a page below 0", api.Map{Page: -1}, api.ErrRange},
		{"the greatest page", api.Map{Page: math.MaxInt}, api.ErrRange},
		{"the least page", api.Map{Page: math.MinInt}, api.ErrRange},
		{"a page that is none, but a multiple", api.Map{Page: -8, Size: api.Large}, api.ErrRange},
		{"the first frame that is none", api.Map{Frame: 1 << 20}, api.ErrRange},
		{"a frame below 0", api.Map{Frame: -1}, api.ErrRange},
		{"the greatest frame", api.Map{Frame: math.MaxInt}, api.ErrRange},
		{"the least frame", api.Map{Frame: math.MinInt}, api.ErrRange},
		{"rights above", api.Map{Rights: 8}, api.ErrRange},
		{"rights below 0", api.Map{Rights: -1}, api.ErrRange},
		{"the greatest rights", api.Map{Rights: math.MaxInt}, api.ErrRange},
		{"the least rights", api.Map{Rights: math.MinInt}, api.ErrRange},

		{"a large page askew", api.Map{Page: 4, Size: api.Large}, api.ErrAlign},
		{"a large frame askew", api.Map{Size: api.Large, Frame: 4}, api.ErrAlign},
		{"a large one at the last page", api.Map{Page: 4095, Size: api.Large}, api.ErrAlign},
		{"a large one at the last frame", api.Map{Size: api.Large, Frame: 1<<20 - 1}, api.ErrAlign},
		{"a huge page askew", api.Map{Page: 8, Size: api.Huge}, api.ErrAlign},
		{"a huge frame askew", api.Map{Size: api.Huge, Frame: 8}, api.ErrAlign},
		{"a huge page and frame, askew alike", api.Map{Page: 32, Size: api.Huge, Frame: 32}, api.ErrAlign},

		{"no size, and a page that is none", api.Map{Page: 4096, Size: 3}, api.ErrKind},
		{"no size, and a frame that is none", api.Map{Size: 3, Frame: -1}, api.ErrKind},
		{"no size, and no rights", api.Map{Size: -1, Rights: 8}, api.ErrKind},
		{"no size, and askew", api.Map{Page: 1, Size: 3, Frame: 1}, api.ErrKind},
		{"a page that is none, and askew", api.Map{Page: 4097, Size: api.Large}, api.ErrRange},
		{"a page below 0, and askew", api.Map{Page: -1, Size: api.Huge}, api.ErrRange},
		{"a frame that is none, and a page askew", api.Map{Page: 1, Size: api.Large, Frame: 1 << 20}, api.ErrRange},
		{"no rights, and a page askew", api.Map{Page: 1, Size: api.Large, Rights: 8}, api.ErrRange},
		{"no rights, and a frame askew", api.Map{Size: api.Large, Frame: 1, Rights: -1}, api.ErrRange},
		{"all at once", api.Map{Page: -1, Size: 9, Frame: -1, Rights: -1}, api.ErrKind},
	}
	for _, test := range tests {
		if got := page.Check(test.m); got != test.want {
			t.Errorf("%s: Check(%+v): %d, want %d", test.what, test.m, got, test.want)
		}
	}
}

func TestCheckOfEveryPageAndRight(t *testing.T) {
	for size, span := range spans {
		for p := range 4096 {
			want := 0
			if p%span != 0 {
				want = api.ErrAlign
			}
			for rights := range 8 {
				m := api.Map{Page: p, Size: size, Frame: 64, Rights: rights}
				if got := page.Check(m); got != want {
					t.Errorf("Check(%+v): %d, want %d", m, got, want)
				}
			}
		}
	}
}

func TestOver(t *testing.T) {
	tests := []struct {
		m           api.Map
		first, last int
	}{
		{api.Map{}, 0, 0},
		{api.Map{Page: 4095}, 4095, 4095},
		{api.Map{Page: 8, Size: api.Large}, 8, 15},
		{api.Map{Page: 4088, Size: api.Large}, 4088, 4095},
		{api.Map{Page: 64, Size: api.Huge}, 64, 127},
		{api.Map{Page: 4032, Size: api.Huge}, 4032, 4095},
	}
	for _, test := range tests {
		for p := range 4096 {
			if got, want := page.Over(test.m, p), test.first <= p && p <= test.last; got != want {
				t.Errorf("Over(%+v, %d): %v, want %v", test.m, p, got, want)
			}
		}
	}
}

// isOver reckons in numbers without bounds whether a page is one of those from a mapping's Page on.
func isOver(m api.Map, p int) bool {
	way := new(big.Int).Sub(big.NewInt(int64(p)), big.NewInt(int64(m.Page)))
	return way.Sign() >= 0 && way.Cmp(big.NewInt(int64(spans[m.Size]))) < 0
}

func TestOverAndMeetOfWrongInputs(t *testing.T) {
	for _, size := range sizes {
		for _, first := range edges {
			m := api.Map{Page: first, Size: size}
			for _, p := range edges {
				if got, want := page.Over(m, p), isOver(m, p); got != want {
					t.Errorf("Over(%+v, %d): %v, want %v", m, p, got, want)
				}
				for _, otherSize := range sizes {
					other := api.Map{Page: p, Size: otherSize}
					if got, want := page.Meet(m, other), isOver(m, p) || isOver(other, first); got != want {
						t.Errorf("Meet(%+v, %+v): %v, want %v", m, other, got, want)
					}
				}
			}
		}
	}
}

func TestMeet(t *testing.T) {
	large := api.Map{Page: 8, Size: api.Large, Frame: 16, Rights: 3}
	tests := []struct {
		what string
		a, b api.Map
		want bool
	}{
		{"itself", large, large, true},
		{"its first page", large, api.Map{Page: 8}, true},
		{"its last page", large, api.Map{Page: 15}, true},
		{"the page ahead", large, api.Map{Page: 7}, false},
		{"the page behind", large, api.Map{Page: 16}, false},
		{"a huge one that has it", large, api.Map{Size: api.Huge}, true},
		{"another huge one", large, api.Map{Page: 64, Size: api.Huge}, false},
		{"the large one behind", large, api.Map{Page: 16, Size: api.Large}, false},
		{"the same frames elsewhere", large, api.Map{Page: 0, Size: api.Large, Frame: 16, Rights: 3}, false},
		{"one of no size inside", large, api.Map{Page: 9, Size: 3}, true},
		{"one of no size outside", large, api.Map{Page: 0, Size: 3}, false},
		{"two of no size", api.Map{Page: 9, Size: 3}, api.Map{Page: 9, Size: 3}, false},
		{"the last pages", api.Map{Page: 4095}, api.Map{Page: 4032, Size: api.Huge}, true},
	}
	for _, test := range tests {
		if got := page.Meet(test.a, test.b); got != test.want {
			t.Errorf("%s: %v, want %v", test.what, got, test.want)
		}
		if got := page.Meet(test.b, test.a); got != test.want {
			t.Errorf("%s, the other way round: %v, want %v", test.what, got, test.want)
		}
	}
}

// Each kind of access by a user and by none, and the rights from 0 to 7 that let it go on.
var goesOn = []struct {
	kind   int
	user   bool
	rights [8]bool
}{
	{api.Read, false, [8]bool{true, true, true, true, true, true, true, true}},
	{api.Read, true, [8]bool{2: true, 3: true, 6: true, 7: true}},
	{api.Write, false, [8]bool{1: true, 3: true, 5: true, 7: true}},
	{api.Write, true, [8]bool{3: true, 7: true}},
	{api.Run, false, [8]bool{4: true, 5: true, 6: true, 7: true}},
	{api.Run, true, [8]bool{6: true, 7: true}},
}

func TestMay(t *testing.T) {
	for _, row := range goesOn {
		for rights, want := range row.rights {
			a := api.Access{Page: 9, Kind: row.kind, User: row.user}
			if got := page.May(rights, a); got != want {
				t.Errorf("May(%d, %+v): %v, want %v", rights, a, got, want)
			}
		}
	}
}

// Rights are bits: those above the three known ones change nothing.
func TestMayOfMoreBits(t *testing.T) {
	for _, more := range []int{8, 16, 1 << 32, math.MinInt, -8, math.MaxInt &^ 7} {
		for _, row := range goesOn {
			for rights, want := range row.rights {
				a := api.Access{Kind: row.kind, User: row.user}
				if got := page.May(rights|more, a); got != want {
					t.Errorf("May(%d, %+v): %v, want %v", rights|more, a, got, want)
				}
			}
		}
	}
}

// An access of no kind asks for nothing but what its user asks for; its page is not looked at.
func TestMayOfNoKind(t *testing.T) {
	for _, kind := range []int{math.MinInt, -2, -1, 3, 4, 5, 6, 7, math.MaxInt} {
		for rights := range 8 {
			for _, p := range edges {
				if !page.May(rights, api.Access{Page: p, Kind: kind}) {
					t.Errorf("May(%d) of the kind %d: false", rights, kind)
				}
				want := rights == 2 || rights == 3 || rights == 6 || rights == 7
				if page.May(rights, api.Access{Page: p, Kind: kind, User: true}) != want {
					t.Errorf("May(%d) of the kind %d, by a user: %v", rights, kind, !want)
				}
			}
		}
	}
}

func TestCheckAccess(t *testing.T) {
	tests := []struct {
		p, kind, want int
	}{
		{0, api.Read, 0},
		{0, api.Write, 0},
		{0, api.Run, 0},
		{4095, api.Read, 0},
		{4095, api.Write, 0},
		{4095, api.Run, 0},
		{9, 3, api.ErrKind},
		{9, -1, api.ErrKind},
		{9, math.MaxInt, api.ErrKind},
		{9, math.MinInt, api.ErrKind},
		{4096, api.Read, api.ErrRange},
		{4096, api.Write, api.ErrRange},
		{4096, api.Run, api.ErrRange},
		{-1, api.Read, api.ErrRange},
		{math.MaxInt, api.Write, api.ErrRange},
		{math.MinInt, api.Run, api.ErrRange},
		{4096, 3, api.ErrKind},
		{-1, -1, api.ErrKind},
		{math.MinInt, math.MaxInt, api.ErrKind},
	}
	for _, test := range tests {
		for _, user := range []bool{false, true} {
			a := api.Access{Page: test.p, Kind: test.kind, User: user}
			if got := page.CheckAccess(a); got != test.want {
				t.Errorf("CheckAccess(%+v): %d, want %d", a, got, test.want)
			}
		}
	}
}

func TestAnswer(t *testing.T) {
	mappings := []api.Map{
		{Page: 0, Size: api.Small, Frame: 0},
		{Page: 4095, Size: api.Small, Frame: 1<<20 - 1},
		{Page: 8, Size: api.Large, Frame: 16},
		{Page: 4088, Size: api.Large, Frame: 1<<20 - 8},
		{Page: 64, Size: api.Huge, Frame: 0},
		{Page: 4032, Size: api.Huge, Frame: 1<<20 - 64},
	}
	for _, m := range mappings {
		for _, row := range goesOn {
			for rights, on := range row.rights {
				m.Rights = rights
				for k := range spans[m.Size] {
					a := api.Access{Page: m.Page + k, Kind: row.kind, User: row.user}
					want := api.Answer{End: api.NotAllowed}
					if on {
						want = api.Answer{End: api.Done, Frame: m.Frame + k, Rights: rights}
					}
					if got := page.Answer(m, a); got != want {
						t.Errorf("Answer(%+v, %+v): %+v, want %+v", m, a, got, want)
					}
				}
			}
		}
	}
}

// askAll asks every function of the face once, and tells what all of them answered.
func askAll(m api.Map, a api.Access) string {
	other := api.Map{Page: a.Page, Size: a.Kind, Frame: m.Rights, Rights: m.Frame}
	return fmt.Sprint(page.Span(m.Size), page.Has(m.Page), page.Index(m.Page, a.Kind), page.Check(m), page.Over(m, a.Page),
		page.Meet(m, other), page.May(m.Rights, a), page.CheckAccess(a), page.Answer(m, a))
}

// P1: every call ends without a panic, whatever it is given, and answers the same when it is asked again, in another order.
func TestNothingButTheArguments(t *testing.T) {
	var maps []api.Map
	var accesses []api.Access
	few := []int{math.MinInt, -1, 0, 1, 2, 3, 8, 4095, 4096, 1 << 20, math.MaxInt}
	for _, first := range few {
		for _, second := range few {
			accesses = append(accesses, api.Access{Page: first, Kind: second}, api.Access{Page: first, Kind: second, User: true})
			for _, third := range few {
				maps = append(maps, api.Map{Page: first, Size: second, Frame: third, Rights: first ^ third})
			}
		}
	}
	var answers []string
	for _, m := range maps {
		answers = append(answers, askAll(m, accesses[len(answers)%len(accesses)]))
	}
	for i := len(maps) - 1; i >= 0; i-- {
		a := accesses[i%len(accesses)]
		if again := askAll(maps[i], a); again != answers[i] {
			t.Errorf("%+v, %+v: %s, then %s", maps[i], a, answers[i], again)
		}
	}
}
