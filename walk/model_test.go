package walk_test

import (
	"slices"
	"testing"

	"wayleave/api"
	"wayleave/entry"
	"wayleave/frames"
	"wayleave/walk"
)

// wayOf says what the chapter says of the way to a page, one level behind the other.
func wayOf(f *frames.Frames, root, p int) (walk.Spot, int) {
	if p < 0 || p >= api.Pages {
		return walk.Spot{}, api.ErrRange
	}
	s := walk.Spot{Level: api.Levels, E: api.Entry{There: true, Frame: root}}
	for s.E.There && !s.E.Leaf {
		s.Level--
		s.Tables = append(s.Tables, s.E.Frame)
		s.Places = append(s.Places, p/spans[s.Level]%8)
		if !f.Taken(s.E.Frame) {
			return walk.Spot{}, api.ErrFree
		}
		word, _ := f.Load(s.E.Frame, p/spans[s.Level]%8)
		e, code := entry.Decode(word, s.Level)
		if code != 0 {
			return walk.Spot{}, code
		}
		s.E = e
	}
	return s, 0
}

// allWays says what List and Tables tell, by the ways to all pages, one behind the other: that is the order of the words, too.
func allWays(f *frames.Frames, root int) ([]api.Map, []int, int) {
	var maps []api.Map
	var tables []int
	for p := 0; p < api.Pages; {
		s, code := wayOf(f, root, p)
		if code != 0 {
			return nil, nil, code
		}
		for i, table := range s.Tables {
			// A table is new at the first page to which the way leads by it.
			if p%(8*spans[top-i]) == 0 {
				tables = append(tables, table)
			}
		}
		if s.E.Leaf {
			maps = append(maps, api.Map{Page: p, Size: s.Level, Frame: s.E.Frame, Rights: s.E.Rights})
		}
		p += spans[s.Level]
	}
	return maps, tables, 0
}

// mustAgree fails unless the program tells of a root what the model tells.
func mustAgree(t *testing.T, f *frames.Frames, root int, pages []int) int {
	t.Helper()
	maps, tables, code := allWays(f, root)
	if code != 0 {
		mustNotTell(t, f, root, code)
	} else {
		mustList(t, f, root, maps...)
		mustTables(t, f, root, tables...)
	}
	for _, p := range pages {
		if want, code := wayOf(f, root, p); code != 0 {
			mustNotFind(t, f, root, p, code)
		} else {
			mustFind(t, f, root, p, want)
		}
	}
	return code
}

// TestEveryTableOfThree goes through all memories of three frames in each of which two words are nothing, a leaf, a wrong word, or lead to one of four frames, the last of which is none.
func TestEveryTableOfThree(t *testing.T) {
	words := []uint64{0, mapped(1, 64, 5), 2, leads(0), leads(1), leads(2), leads(3)}
	places := []struct{ table, place int }{{0, 0}, {0, 7}, {1, 0}, {1, 7}, {2, 0}, {2, 7}}
	f := filled(t, 3)
	seen := map[int]int{}
	orders := 1
	for range places {
		orders *= len(words)
	}
	for order := range orders {
		rest := order
		for _, x := range places {
			mustStore(t, f, x.table, x.place, words[rest%len(words)])
			rest /= len(words)
		}
		seen[mustAgree(t, f, 0, nil)]++
	}
	for _, code := range []int{0, api.ErrFree, api.ErrBits, api.ErrKind} {
		if seen[code] == 0 {
			t.Errorf("the code %d was never told: %v", code, seen)
		}
	}
}

// TestLongRuns asks of memories that go on changing by a fixed rule, with few wrong words and with many.
func TestLongRuns(t *testing.T) {
	var pages []int
	for p := -1; p <= api.Pages; p += 7 {
		pages = append(pages, p)
	}
	pages = append(pages, last, api.Pages)
	seen := map[int]int{}
	for seed, c := range []struct{ count, wrongIn int }{{4, 1000000}, {12, 1000000}, {12, 300}, {128, 1000000}, {128, 2000}, {128, 100}} {
		state := uint64(seed + 1)
		below := func(end int) int {
			state = state*6364136223846793005 + 1442695040888963407
			return int(state>>33) % end
		}
		for range 30 {
			f := filled(t, c.count)
			lay(t, f, c.count, func() bool { return below(c.wrongIn) == 0 }, below)
			seen[mustAgree(t, f, 0, pages)]++
			seen[mustAgree(t, f, below(c.count), pages[:20])]++
			f.Give(below(c.count))
			seen[mustAgree(t, f, 0, pages)]++
		}
	}
	for _, code := range []int{0, api.ErrFree, api.ErrBits, api.ErrKind, api.ErrAlign} {
		if seen[code] == 0 {
			t.Errorf("the code %d was never told: %v", code, seen)
		}
	}
}

// lay fills the words of all frames: those of the first fourth are a root's, and those of each fourth lead to the next one, or are leaves.
func lay(t *testing.T, f *frames.Frames, count int, wrong func() bool, below func(int) int) {
	t.Helper()
	// One word for each code, where its level lets it tell that.
	bad := []uint64{2, leads(0) | dirty, 1<<12 | big | there, leads(count)}
	for k := range count {
		level := top - k*api.Levels/count
		for place := range api.Fan {
			word := uint64(0)
			switch kind := below(4); {
			case wrong():
				word = bad[below(len(bad))]
			case kind == 0:
			case level == 0 || level < top && kind == 1:
				word, _ = leaf(level, 64*below(1000), below(8), uint64(below(4))<<5)
			default:
				first := (top - level + 1) * count / api.Levels
				word = leads(first + below(count/api.Levels))
			}
			mustStore(t, f, k, place, word)
		}
	}
}

// What is answered hangs on the arguments and the frames alone.
func TestAgain(t *testing.T) {
	a, b := mixed(t), mixed(t)
	for range 2 {
		for root := -1; root <= 5; root++ {
			for _, p := range append(slices.Clone(somePages), farOff...) {
				s, code := walk.Find(a, root, p)
				other, otherCode := walk.Find(b, root, p)
				if !sameSpot(s, other) || code != otherCode {
					t.Fatalf("Find(%d, %d): %v, %d, then %v, %d", root, p, s, code, other, otherCode)
				}
			}
			mustAgree(t, a, root, somePages)
		}
	}
}
