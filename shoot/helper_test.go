package shoot_test

import (
	"math"
	"slices"
	"testing"

	"wayleave/api"
	"wayleave/shoot"
)

// farOff are numbers that are neither a core, nor how many cores there may be.
var farOff = []int{math.MinInt, math.MinInt + 1, math.MinInt + 4, -1 << 32, -1<<32 + 1, -256, -5, -4, -3, -2, -1, 5, 6, 7, 8, 64, 256, 257, 1 << 16, 1<<31 + 1, 1 << 32, 1<<32 + 1, math.MaxInt - 3, math.MaxInt - 1, math.MaxInt}

var (
	// noCores are numbers of no core.
	noCores = append([]int{4}, farOff...)
	// noCounts are numbers of cores that there may not be.
	noCounts = append([]int{0}, farOff...)
)

// first and other are mappings with nothing in common.
var (
	first = api.Map{Page: 64, Size: api.Huge, Frame: 128, Rights: api.MayWrite}
	other = api.Map{Page: 7, Size: api.Small, Frame: 9, Rights: api.MayUser | api.MayRun}
)

// someMaps are mappings of each size, at the edges, and such as are none.
var someMaps = []api.Map{
	first, other,
	{},
	{Rights: 1}, {Rights: 7}, {Frame: 1}, {Page: 1}, {Size: api.Large}, {Size: api.Huge},
	{Page: 8, Size: api.Large, Frame: 16, Rights: 5},
	{Page: api.Pages - 1, Frame: api.MaxData - 1, Rights: 7},
	{Page: api.Pages - 8, Size: api.Large, Frame: api.MaxData - 8, Rights: 7},
	{Page: api.Pages - 64, Size: api.Huge, Frame: api.MaxData - 64, Rights: 7},
	{Page: 1, Size: api.Large}, {Page: 8, Size: api.Huge}, {Page: 8, Size: api.Large, Frame: 3},
	{Size: 3}, {Size: -1}, {Page: -1}, {Page: api.Pages}, {Frame: -1}, {Frame: api.MaxData}, {Rights: -1}, {Rights: 8},
	{Page: 1 << 32, Size: 1 << 32, Frame: 1 << 32, Rights: 1 << 32},
	{Page: math.MinInt, Size: math.MaxInt, Frame: math.MinInt + 1, Rights: math.MaxInt - 1},
	{Page: math.MaxInt, Size: math.MinInt, Frame: math.MaxInt - 1, Rights: math.MinInt + 1},
}

// upTo tells the cores 0 to count - 1.
func upTo(count int) []int {
	var cores []int
	for core := range count {
		cores = append(cores, core)
	}
	return cores
}

// without tells cores but for one.
func without(cores []int, core int) []int {
	return slices.DeleteFunc(slices.Clone(cores), func(c int) bool { return c == core })
}

// parts tells all choices of some cores, none and all among them.
func parts(cores []int) [][]int {
	all := [][]int{nil}
	for _, core := range cores {
		for _, part := range slices.Clone(all) {
			all = append(all, append(slices.Clone(part), core))
		}
	}
	return all
}

// orders tells all orders of some cores.
func orders(cores []int) [][]int {
	if len(cores) == 0 {
		return [][]int{nil}
	}
	var all [][]int
	for _, core := range cores {
		for _, order := range orders(without(cores, core)) {
			all = append(all, append([]int{core}, order...))
		}
	}
	return all
}

// state is what a Shoot may have behind it: first was posted to that many cores (0: to none), and these looked after it, one behind the other.
type state struct {
	cores int
	acked []int
}

// states tells all states, but for the order in which cores looked after it.
func states() []state {
	all := []state{{}}
	for count := 1; count <= 4; count++ {
		for _, acked := range parts(upTo(count)) {
			all = append(all, state{count, acked})
		}
	}
	return all
}

// reach tells a new Shoot that has this state behind it.
func (x state) reach(t *testing.T) *shoot.Shoot {
	t.Helper()
	s := shoot.New()
	if x.cores > 0 {
		mustPost(t, s, first, x.cores, true)
	}
	for _, core := range x.acked {
		mustAck(t, s, core, first)
	}
	return s
}

// waits tells the cores that have something to look after in this state.
func (x state) waits() []int {
	return slices.DeleteFunc(upTo(x.cores), func(c int) bool { return slices.Contains(x.acked, c) })
}

func mustPost(t *testing.T, s *shoot.Shoot, m api.Map, cores int, want bool) {
	t.Helper()
	if got := s.Post(m, cores); got != want {
		t.Fatalf("Post(%v, %d): %v, want %v", m, cores, got, want)
	}
}

func mustAck(t *testing.T, s *shoot.Shoot, core int, want api.Map) {
	t.Helper()
	if got, ok := s.Ack(core); got != want || !ok {
		t.Fatalf("Ack(%d): %v, %v, want %v, true", core, got, ok, want)
	}
}

// mustNotAck fails unless a core has nothing to look after, and is told nothing.
func mustNotAck(t *testing.T, s *shoot.Shoot, core int) {
	t.Helper()
	if got, ok := s.Ack(core); got != (api.Map{}) || ok {
		t.Fatalf("Ack(%d): %v, %v, want nothing, false", core, got, ok)
	}
}

// mustWait fails unless a Shoot tells in all its ways that these cores have something to look after, and no others.
func mustWait(t *testing.T, s *shoot.Shoot, cores ...int) {
	t.Helper()
	for _, core := range append(upTo(4), noCores...) {
		if got, want := s.Waits(core), slices.Contains(cores, core); got != want {
			t.Fatalf("Waits(%d): %v, want %v, of %v", core, got, want, cores)
		}
	}
	if got, want := s.Over(), len(cores) == 0; got != want {
		t.Fatalf("Over: %v, want %v, of %v", got, want, cores)
	}
}

// mustEnd fails unless these cores, and no others, have this mapping to look after; all of them do so.
func mustEnd(t *testing.T, s *shoot.Shoot, m api.Map, cores ...int) {
	t.Helper()
	mustWait(t, s, cores...)
	for n, core := range cores {
		mustAck(t, s, core, m)
		mustWait(t, s, cores[n+1:]...)
	}
	for _, core := range append(upTo(4), noCores...) {
		mustNotAck(t, s, core)
	}
	mustWait(t, s)
}
