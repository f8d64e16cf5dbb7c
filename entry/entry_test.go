package entry_test

import (
	"fmt"
	"math"
	"testing"

	"wayleave/api"
	"wayleave/entry"
)

// levels are the four levels, and numbers that are none.
var levels = []int{math.MinInt, -1 << 32, -4, -1, 0, 1, 2, 3, 4, 5, 8, 64, 1 << 32, math.MaxInt - 1, math.MaxInt}

// rights are the eight sums, and numbers that are none.
var rights = []int{math.MinInt, -8, -1, 0, 1, 2, 3, 4, 5, 6, 7, 8, 9, 15, 1 << 32, math.MaxInt}

// frames are those at which an answer may change, and numbers that are none.
var frames = []int{
	math.MinInt, math.MinInt + 64, -1 << 20, -64, -8, -1,
	0, 1, 2, 7, 8, 9, 16, 32, 56, 63, 64, 65, 72, 128, 512, 4096, 1 << 19,
	1<<20 - 128, 1<<20 - 64, 1<<20 - 8, 1<<20 - 1, 1 << 20, 1<<20 + 64, 1 << 32, math.MaxInt - 63, math.MaxInt,
}

// spans are the pages of a leaf's mapping, by its level.
var spans = []int{1, 8, 64}

var bools = []bool{false, true}

// marks hands out There, Leaf, Used and Dirty, set and not, each with each.
func marks(with func(e api.Entry)) {
	for _, there := range bools {
		for _, leaf := range bools {
			for _, used := range bools {
				for _, dirty := range bools {
					with(api.Entry{There: there, Leaf: leaf, Used: used, Dirty: dirty})
				}
			}
		}
	}
}

// everyEntry hands out all marks with all rights and frames, right and wrong.
func everyEntry(with func(e api.Entry)) {
	marks(func(e api.Entry) {
		for _, e.Rights = range rights {
			for _, e.Frame = range frames {
				with(e)
			}
		}
	})
}

// wantCheck goes through the chapter's codes, one by one, in the order in which it names them.
func wantCheck(e api.Entry, level int) int {
	isLeaf := e.There && e.Leaf
	isWay := e.There && !e.Leaf
	for _, rule := range []struct {
		so   bool
		code int
	}{
		{level < 0 || level > 3, api.ErrRange},
		{!e.There && (e.Leaf || e.Rights != 0 || e.Used || e.Dirty || e.Frame != 0), api.ErrBits},
		{e.There && (e.Rights < 0 || e.Rights > 7), api.ErrRange},
		{e.There && (e.Frame < 0 || e.Frame > 1<<20-1), api.ErrRange},
		{isLeaf && level == 3, api.ErrKind},
		{isWay && level == 0, api.ErrKind},
		{isWay && e.Rights != 7, api.ErrBits},
		{isWay && (e.Used || e.Dirty), api.ErrBits},
		{isLeaf && level == 1 && e.Frame&7 != 0, api.ErrAlign},
		{isLeaf && level == 2 && e.Frame&63 != 0, api.ErrAlign},
	} {
		if rule.so {
			return rule.code
		}
	}
	return 0
}

func TestCheck(t *testing.T) {
	tests := []struct {
		what  string
		e     api.Entry
		level int
		want  int
	}{
		{"nothing at the least level", api.Entry{}, 0, 0},
		{"nothing at the root's", api.Entry{}, 3, 0},
		{"a leaf at the level 0", api.Entry{There: true, Leaf: true}, 0, 0},
		{"the last frame", api.Entry{There: true, Leaf: true, Rights: 7, Used: true, Dirty: true, Frame: 1<<20 - 1}, 0, 0},
		{"a large leaf", api.Entry{There: true, Leaf: true, Frame: 8}, 1, 0},
		{"the last large leaf", api.Entry{There: true, Leaf: true, Rights: 7, Frame: 1<<20 - 8}, 1, 0},
		{"a huge leaf", api.Entry{There: true, Leaf: true, Frame: 64}, 2, 0},
		{"the last huge leaf", api.Entry{There: true, Leaf: true, Rights: 7, Frame: 1<<20 - 64}, 2, 0},
		{"a leaf that is dirty and not used", api.Entry{There: true, Leaf: true, Dirty: true}, 1, 0},
		{"a way at the level 1", api.Entry{There: true, Rights: 7}, 1, 0},
		{"a way at the level 2, askew for a leaf", api.Entry{There: true, Rights: 7, Frame: 3}, 2, 0},
		{"a way at the root's level", api.Entry{There: true, Rights: 7, Frame: 1<<20 - 1}, 3, 0},

		{"the first level that is none", api.Entry{}, 4, api.ErrRange},
		{"a level below 0", api.Entry{}, -1, api.ErrRange},
		{"no level, and bits of nothing", api.Entry{Frame: 1}, 4, api.ErrRange},
		{"no level, and a way with marks", api.Entry{There: true, Used: true}, -1, api.ErrRange},

		{"nothing, with Leaf", api.Entry{Leaf: true}, 1, api.ErrBits},
		{"nothing, with rights", api.Entry{Rights: 1}, 1, api.ErrBits},
		{"nothing, with rights that are none", api.Entry{Rights: -1}, 1, api.ErrBits},
		{"nothing, with Used", api.Entry{Used: true}, 1, api.ErrBits},
		{"nothing, with Dirty", api.Entry{Dirty: true}, 1, api.ErrBits},
		{"nothing, with a frame", api.Entry{Frame: 1}, 1, api.ErrBits},
		{"nothing, with a frame that is none", api.Entry{Frame: 1 << 20}, 1, api.ErrBits},
		{"nothing, with a leaf at the root's level", api.Entry{Leaf: true, Frame: 1}, 3, api.ErrBits},

		{"rights above", api.Entry{There: true, Leaf: true, Rights: 8}, 0, api.ErrRange},
		{"rights below 0", api.Entry{There: true, Leaf: true, Rights: -1}, 0, api.ErrRange},
		{"the first frame that is none", api.Entry{There: true, Leaf: true, Frame: 1 << 20}, 0, api.ErrRange},
		{"a frame below 0", api.Entry{There: true, Leaf: true, Frame: -1}, 0, api.ErrRange},
		{"no frame, and a leaf at the root's level", api.Entry{There: true, Leaf: true, Frame: 1 << 20}, 3, api.ErrRange},
		{"no rights, and a way at the level 0", api.Entry{There: true, Rights: 8}, 0, api.ErrRange},
		{"no rights, and a way with marks", api.Entry{There: true, Rights: 8, Used: true}, 2, api.ErrRange},
		{"no frame, and askew", api.Entry{There: true, Leaf: true, Frame: 1<<20 + 1}, 1, api.ErrRange},
		{"no rights, and askew", api.Entry{There: true, Leaf: true, Rights: 8, Frame: 1}, 1, api.ErrRange},

		{"a leaf at the root's level", api.Entry{There: true, Leaf: true, Rights: 7}, 3, api.ErrKind},
		{"a leaf at the root's level, askew", api.Entry{There: true, Leaf: true, Frame: 1}, 3, api.ErrKind},
		{"a way at the level 0", api.Entry{There: true, Rights: 7}, 0, api.ErrKind},
		{"a way at the level 0, with marks", api.Entry{There: true, Used: true}, 0, api.ErrKind},

		{"a way without rights", api.Entry{There: true}, 1, api.ErrBits},
		{"a way with some rights", api.Entry{There: true, Rights: 6}, 3, api.ErrBits},
		{"a way that is used", api.Entry{There: true, Rights: 7, Used: true}, 1, api.ErrBits},
		{"a way that is dirty", api.Entry{There: true, Rights: 7, Dirty: true}, 2, api.ErrBits},

		{"a large leaf askew", api.Entry{There: true, Leaf: true, Frame: 4}, 1, api.ErrAlign},
		{"the last frame of a large leaf", api.Entry{There: true, Leaf: true, Frame: 1<<20 - 1}, 1, api.ErrAlign},
		{"a huge leaf askew", api.Entry{There: true, Leaf: true, Frame: 8}, 2, api.ErrAlign},
		{"the last large leaf as a huge one", api.Entry{There: true, Leaf: true, Frame: 1<<20 - 8}, 2, api.ErrAlign},
	}
	for _, test := range tests {
		if got := entry.Check(test.e, test.level); got != test.want {
			t.Errorf("%s: Check(%+v, %d): %d, want %d", test.what, test.e, test.level, got, test.want)
		}
	}
}

func TestCheckOfEveryEntry(t *testing.T) {
	everyEntry(func(e api.Entry) {
		for _, level := range levels {
			if got, want := entry.Check(e, level), wantCheck(e, level); got != want {
				t.Errorf("Check(%+v, %d): %d, want %d", e, level, got, want)
			}
		}
	})
}

func TestEncode(t *testing.T) {
	leaf := func(e api.Entry) api.Entry {
		e.There, e.Leaf = true, true
		return e
	}
	way := func(frame int) api.Entry { return api.Entry{There: true, Rights: 7, Frame: frame} }
	tests := []struct {
		e     api.Entry
		level int
		want  uint64
	}{
		{api.Entry{}, 0, 0},
		{api.Entry{}, 1, 0},
		{api.Entry{}, 2, 0},
		{api.Entry{}, 3, 0},
		{leaf(api.Entry{}), 0, 0x01},
		{leaf(api.Entry{}), 1, 0x81},
		{leaf(api.Entry{}), 2, 0x81},
		{leaf(api.Entry{Rights: api.MayWrite}), 0, 0x03},
		{leaf(api.Entry{Rights: api.MayUser}), 0, 0x05},
		{leaf(api.Entry{Rights: api.MayRun}), 0, 0x09},
		{leaf(api.Entry{Rights: 7}), 0, 0x0f},
		{leaf(api.Entry{Used: true}), 0, 0x21},
		{leaf(api.Entry{Dirty: true}), 0, 0x41},
		{leaf(api.Entry{Used: true, Dirty: true}), 2, 0xe1},
		{leaf(api.Entry{Frame: 1}), 0, 0x1001},
		{leaf(api.Entry{Frame: 1 << 19}), 0, 0x80000001},
		{leaf(api.Entry{Frame: 0xfffff, Rights: 7, Used: true, Dirty: true}), 0, 0xfffff06f},
		{leaf(api.Entry{Frame: 0xffff8, Rights: 5, Dirty: true}), 1, 0xffff80cb},
		{leaf(api.Entry{Frame: 0xfffc0, Rights: 2, Used: true}), 2, 0xfffc00a5},
		{way(0), 1, 0x0f},
		{way(3), 2, 0x300f},
		{way(0xfffff), 3, 0xfffff00f},
	}
	for _, test := range tests {
		w, code := entry.Encode(test.e, test.level)
		if w != test.want || code != 0 {
			t.Errorf("Encode(%+v, %d): %#x, %d, want %#x, 0", test.e, test.level, w, code, test.want)
		}
		e, code := entry.Decode(test.want, test.level)
		if e != test.e || code != 0 {
			t.Errorf("Decode(%#x, %d): %+v, %d, want %+v, 0", test.want, test.level, e, code, test.e)
		}
	}
}

// There and back, from an entry on; and what may not stand has Check's code, and no word.
func TestEncodeAndBack(t *testing.T) {
	everyEntry(func(e api.Entry) {
		for _, level := range levels {
			w, code := entry.Encode(e, level)
			if want := wantCheck(e, level); code != want {
				t.Errorf("Encode(%+v, %d): code %d, want %d", e, level, code, want)
			}
			if code != 0 {
				if w != 0 {
					t.Errorf("Encode(%+v, %d): %#x with the code %d", e, level, w, code)
				}
				continue
			}
			back, code := entry.Decode(w, level)
			if back != e || code != 0 {
				t.Errorf("Decode(%#x, %d): %+v, %d, want %+v, 0", w, level, back, code, e)
			}
		}
	})
}

func TestDecodeCodes(t *testing.T) {
	tests := []struct {
		what  string
		w     uint64
		level int
		want  int
	}{
		{"the first level that is none", 1, 4, api.ErrRange},
		{"a level below 0", 1, -1, api.ErrRange},
		{"no level, and nothing", 0, 4, api.ErrRange},
		{"no level, and bits that are none", 16, 4, api.ErrRange},
		{"the bit 4", 0x11, 0, api.ErrBits},
		{"the bit 8", 0x101, 0, api.ErrBits},
		{"the bit 11", 0x801, 0, api.ErrBits},
		{"the bit 32", 1<<32 + 1, 0, api.ErrBits},
		{"the bit 63", 1<<63 + 1, 0, api.ErrBits},
		{"all bits", math.MaxUint64, 1, api.ErrBits},
		{"the bit 7 at the level 0", 0x81, 0, api.ErrBits},
		{"nothing, with the bit 7", 0x80, 1, api.ErrBits},
		{"nothing, with a frame", 0x1000, 3, api.ErrBits},
		{"the bit 4, and a leaf at the root's level", 0x91, 3, api.ErrBits},
		{"the bit 4, and askew", 0x1091, 1, api.ErrBits},

		{"a leaf at the root's level", 0x8f, 3, api.ErrKind},
		{"a leaf at the root's level, with few rights, marked and askew", 0x10e1, 3, api.ErrKind},
		{"a way without rights", 0x01, 1, api.ErrBits},
		{"a way with some rights", 0x0d, 2, api.ErrBits},
		{"a way that is used", 0x2f, 1, api.ErrBits},
		{"a way that is dirty", 0x4f, 3, api.ErrBits},
		{"a large leaf askew", 0x4081, 1, api.ErrAlign},
		{"a huge leaf askew", 0x8081, 2, api.ErrAlign},
		{"the last frame of a huge leaf", 0xfffff081, 2, api.ErrAlign},
	}
	for _, test := range tests {
		e, code := entry.Decode(test.w, test.level)
		if code != test.want || e != (api.Entry{}) {
			t.Errorf("%s: Decode(%#x, %d): %+v, %d, want nothing, %d", test.what, test.w, test.level, e, code, test.want)
		}
	}
}

// Each bit by itself, and each bit with the bit 0.
func TestDecodeOfEachBit(t *testing.T) {
	leaf := api.Entry{There: true, Leaf: true}
	at0 := map[int]func(e *api.Entry){
		0: func(e *api.Entry) {},
		1: func(e *api.Entry) { e.Rights = 1 },
		2: func(e *api.Entry) { e.Rights = 2 },
		3: func(e *api.Entry) { e.Rights = 4 },
		5: func(e *api.Entry) { e.Used = true },
		6: func(e *api.Entry) { e.Dirty = true },
	}
	for k := range 20 {
		at0[12+k] = func(e *api.Entry) { e.Frame = 1 << k }
	}
	for bit := range 64 {
		if bit != 0 {
			for level := range 4 {
				e, code := entry.Decode(1<<bit, level)
				if e != (api.Entry{}) || code != api.ErrBits {
					t.Errorf("the bit %d alone, at the level %d: %+v, %d", bit, level, e, code)
				}
			}
		}
		want, wantCode := leaf, 0
		if set := at0[bit]; set != nil {
			set(&want)
		} else {
			want, wantCode = api.Entry{}, api.ErrBits
		}
		e, code := entry.Decode(1<<bit|1, 0)
		if e != want || code != wantCode {
			t.Errorf("the bits 0 and %d: %+v, %d, want %+v, %d", bit, e, code, want, wantCode)
		}
	}
}

// words hands out all that the low twelve bits can be, with frames and bits above them.
func words(with func(w uint64)) {
	for _, high := range []uint64{0, 1, 2, 7, 8, 63, 64, 72, 0xfffc0, 0xffff8, 0xfffff, 1 << 20, 1 << 51, 1<<52 - 1} {
		for low := range uint64(1 << 12) {
			with(high<<12 | low)
		}
	}
}

// wantDecode reads a word by the digits of its bits, the bit 0 first, as the chapter lays them.
func wantDecode(w uint64, level int) (api.Entry, int) {
	var bit [64]bool
	for k := range bit {
		bit[k] = w>>k%2 == 1
	}
	if level < 0 || level > 3 {
		return api.Entry{}, api.ErrRange
	}
	for k, is := range bit {
		known := k <= 3 || k >= 5 && k <= 7 || k >= 12 && k <= 31
		if is && (!known || !bit[0] || k == 7 && level == 0) {
			return api.Entry{}, api.ErrBits
		}
	}
	e := api.Entry{There: bit[0], Used: bit[5], Dirty: bit[6], Leaf: bit[7] || bit[0] && level == 0}
	for k := range 3 {
		if bit[1+k] {
			e.Rights += 1 << k
		}
	}
	for k := range 20 {
		if bit[12+k] {
			e.Frame += 1 << k
		}
	}
	if code := wantCheck(e, level); code != 0 {
		return api.Entry{}, code
	}
	return e, 0
}

// There and back, from a word on; and what is no entry has a code, and nothing else.
func TestDecodeAndBack(t *testing.T) {
	words(func(w uint64) {
		for _, level := range levels {
			e, code := entry.Decode(w, level)
			if want, wantCode := wantDecode(w, level); e != want || code != wantCode {
				t.Errorf("Decode(%#x, %d): %+v, %d, want %+v, %d", w, level, e, code, want, wantCode)
			}
			if code != 0 {
				continue
			}
			back, code := entry.Encode(e, level)
			if back != w || code != 0 {
				t.Errorf("Encode(%+v, %d): %#x, %d, want %#x, 0", e, level, back, code, w)
			}
		}
	})
}

// How many words of a table may be: leaves have eight rights and two marks each, and as many frames as their size lets them.
func TestHowManyWordsThereAre(t *testing.T) {
	const ways = 4096 // one for each of the frames that are tried
	for level, want := range []int{1 + 4096*32, 1 + ways + 4096/8*32, 1 + ways + 4096/64*32, 1 + ways} {
		got := 0
		for w := range uint64(1 << 24) {
			if w&0xf10 != 0 {
				continue // bits that are none: other tests ask for them
			}
			if _, code := entry.Decode(w, level); code == 0 {
				got++
			}
		}
		if got != want {
			t.Errorf("the level %d: %d words, want %d", level, got, want)
		}
	}
}

func TestMap(t *testing.T) {
	tests := []struct {
		what  string
		e     api.Entry
		level int
		at    int
		want  api.Map
	}{
		{"a small leaf", api.Entry{There: true, Leaf: true, Rights: 3, Frame: 9}, 0, 77, api.Map{Page: 77, Size: api.Small, Frame: 9, Rights: 3}},
		{"the last page", api.Entry{There: true, Leaf: true, Rights: 7, Frame: 1<<20 - 1}, 0, 4095, api.Map{Page: 4095, Size: api.Small, Frame: 1<<20 - 1, Rights: 7}},
		{"a large leaf", api.Entry{There: true, Leaf: true, Rights: 5, Dirty: true, Frame: 8}, 1, 77, api.Map{Page: 72, Size: api.Large, Frame: 8, Rights: 5}},
		{"a large leaf at its first page", api.Entry{There: true, Leaf: true, Frame: 8}, 1, 72, api.Map{Page: 72, Size: api.Large, Frame: 8}},
		{"a large leaf at the page ahead", api.Entry{There: true, Leaf: true, Frame: 8}, 1, 71, api.Map{Page: 64, Size: api.Large, Frame: 8}},
		{"a huge leaf", api.Entry{There: true, Leaf: true, Used: true, Frame: 64}, 2, 127, api.Map{Page: 64, Size: api.Huge, Frame: 64}},
		{"the last huge leaf", api.Entry{There: true, Leaf: true, Frame: 1<<20 - 64}, 2, 4095, api.Map{Page: 4032, Size: api.Huge, Frame: 1<<20 - 64}},

		{"the first page that is none", api.Entry{There: true, Leaf: true, Rights: 5, Frame: 8}, 1, 4096, api.Map{}},
		{"a page below 0", api.Entry{There: true, Leaf: true, Rights: 5, Frame: 8}, 1, -1, api.Map{}},
		{"a way", api.Entry{There: true, Rights: 7, Frame: 8}, 1, 77, api.Map{}},
		{"a way at the root's level", api.Entry{There: true, Rights: 7, Frame: 8}, 3, 77, api.Map{}},
		{"nothing", api.Entry{}, 0, 77, api.Map{}},
		{"nothing, with Leaf", api.Entry{Leaf: true, Frame: 8}, 1, 77, api.Map{}},
		{"a leaf at the root's level", api.Entry{There: true, Leaf: true, Rights: 5}, 3, 77, api.Map{}},
		{"a leaf at no level", api.Entry{There: true, Leaf: true, Rights: 5}, 4, 77, api.Map{}},
		{"a leaf below all levels", api.Entry{There: true, Leaf: true, Rights: 5}, -1, 77, api.Map{}},
		{"a leaf askew", api.Entry{There: true, Leaf: true, Rights: 5, Frame: 4}, 1, 77, api.Map{}},
		{"a leaf without a frame", api.Entry{There: true, Leaf: true, Rights: 5, Frame: 1 << 20}, 0, 77, api.Map{}},
		{"a leaf with no rights that are", api.Entry{There: true, Leaf: true, Rights: 8}, 0, 77, api.Map{}},
	}
	for _, test := range tests {
		if got := entry.Map(test.e, test.level, test.at); got != test.want {
			t.Errorf("%s: Map(%+v, %d, %d): %+v, want %+v", test.what, test.e, test.level, test.at, got, test.want)
		}
	}
}

func TestMapAtEveryPage(t *testing.T) {
	for level, span := range spans {
		e := api.Entry{There: true, Leaf: true, Rights: 6, Used: true, Frame: 128}
		for at := range 4096 {
			want := api.Map{Page: at / span * span, Size: level, Frame: 128, Rights: 6}
			if got := entry.Map(e, level, at); got != want {
				t.Errorf("Map(%+v, %d, %d): %+v, want %+v", e, level, at, got, want)
			}
		}
	}
}

func TestMapOfEveryEntry(t *testing.T) {
	everyEntry(func(e api.Entry) {
		for _, level := range levels {
			for _, at := range []int{math.MinInt, -4096, -1, 0, 63, 64, 1000, 4095, 4096, 1 << 32, math.MaxInt} {
				var want api.Map
				if wantCheck(e, level) == 0 && e.Leaf && at >= 0 && at <= 4095 {
					want = api.Map{Page: at / spans[level] * spans[level], Size: level, Frame: e.Frame, Rights: e.Rights}
				}
				if got := entry.Map(e, level, at); got != want {
					t.Errorf("Map(%+v, %d, %d): %+v, want %+v", e, level, at, got, want)
				}
			}
		}
	})
}

// askAll asks every function of the face once, and tells what all of them answered.
func askAll(e api.Entry, w uint64, level, at int) string {
	word, encodeCode := entry.Encode(e, level)
	said, decodeCode := entry.Decode(w, level)
	return fmt.Sprint(entry.Check(e, level), word, encodeCode, said, decodeCode, entry.Map(e, level, at))
}

// P1: every call ends without a panic, whatever it is given, and answers the same when it is asked again, in another order.
func TestNothingButTheArguments(t *testing.T) {
	type question struct {
		e         api.Entry
		w         uint64
		level, at int
	}
	var questions []question
	bits := []uint64{0, 1, 2, 15, 16, 129, 0x8081, 0x10081, 1 << 32, 1 << 63, math.MaxInt64, math.MaxUint64 - 1, math.MaxUint64}
	everyEntry(func(e api.Entry) {
		k := len(questions)
		questions = append(questions, question{e, bits[k%len(bits)], levels[k%len(levels)], frames[k%len(frames)]})
	})
	var answers []string
	for _, q := range questions {
		answers = append(answers, askAll(q.e, q.w, q.level, q.at))
	}
	for k := len(questions) - 1; k >= 0; k-- {
		q := questions[k]
		if again := askAll(q.e, q.w, q.level, q.at); again != answers[k] {
			t.Errorf("%+v: %s, then %s", q, answers[k], again)
		}
	}
}

// What is asked by several at once is answered as to one alone.
func TestAskedByManyAtOnce(t *testing.T) {
	for k := range 8 {
		t.Run(fmt.Sprint(k), func(t *testing.T) {
			t.Parallel()
			for w := range uint64(1 << 14) {
				e, code := entry.Decode(w, k%4)
				if want, wantCode := wantDecode(w, k%4); e != want || code != wantCode {
					t.Errorf("Decode(%#x, %d): %+v, %d, want %+v, %d", w, k%4, e, code, want, wantCode)
				}
			}
		})
	}
}
