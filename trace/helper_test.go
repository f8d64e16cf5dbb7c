package trace_test

import (
	"cmp"
	"math"
	"slices"
	"testing"

	"wayleave/api"
	"wayleave/trace"
	"wayleave/watch"
)

const last = api.Pages - 1

// farOff are numbers that are neither a page, nor a size, nor a kind of access or of step, nor rights, nor a core, nor how many cores or frames there may be.
var farOff = []int{math.MinInt, math.MinInt + 1, math.MinInt + 4, -1 << 32, -1<<32 + 1, -api.MaxData, -api.Pages, -129, -64, -8, -4, -3, -2, -1, api.Pages, api.Pages + 1, api.MaxData, 1 << 32, 1<<32 + 1, 1<<32 + 4, math.MaxInt - 63, math.MaxInt - 1, math.MaxInt}

// spans tell how many pages a mapping of each size has.
var spans = []int{1, 8, 64}

// somePages are the first and the last one, and those at the edges of what entries of each level have.
var somePages = []int{0, 4, 5, 6, 7, 8, 13, 15, 16, 63, 64, 127, 128, 191, 192, 511, 512, 645, 700, 1500, 4031, 4032, last}

// The mappings of many tests.
var (
	small = mapping(5, api.Small, 9, 3)
	large = mapping(8, api.Large, 16, 7)
	huge  = mapping(128, api.Huge, 640, 0)
)

func mapping(p, size, frame, rights int) api.Map {
	return api.Map{Page: p, Size: size, Frame: frame, Rights: rights}
}

func smap(m api.Map) api.Step { return api.Step{Kind: api.SMap, M: m} }

func unmap(p int) api.Step { return api.Step{Kind: api.SUnmap, M: api.Map{Page: p}} }

func protect(p, rights int) api.Step {
	return api.Step{Kind: api.SProtect, M: api.Map{Page: p, Rights: rights}}
}

func begin(core int, a api.Access) api.Step {
	return api.Step{Kind: api.SAccess, Core: core, A: a}
}

func read(core, p int) api.Step { return begin(core, api.Access{Page: p}) }

func write(core, p int) api.Step { return begin(core, api.Access{Page: p, Kind: api.Write}) }

func walk(core int) api.Step { return api.Step{Kind: api.SWalk, Core: core} }

func ack(core int) api.Step { return api.Step{Kind: api.SAck, Core: core} }

func evict(core int) api.Step { return api.Step{Kind: api.SEvict, Core: core} }

// times tells a thing that many times.
func times[T any](n int, x T) []T {
	return slices.Repeat([]T{x}, n)
}

// join puts things, and lists of them, one behind the other.
func join[T any](parts ...any) []T {
	var all []T
	for _, part := range parts {
		switch x := part.(type) {
		case T:
			all = append(all, x)
		case []T:
			all = append(all, x...)
		default:
			panic("neither a thing nor a list of them")
		}
	}
	return all
}

func steps(parts ...any) []api.Step { return join[api.Step](parts...) }

func events(parts ...any) []api.Event { return join[api.Event](parts...) }

var (
	going      = api.Event{}
	back       = api.Event{Back: true}
	notMapped  = api.Event{Ended: true, Answer: api.Answer{End: api.NotMapped}}
	notAllowed = api.Event{Ended: true, Answer: api.Answer{End: api.NotAllowed}}
)

func done(frame, rights int) api.Event {
	return api.Event{Ended: true, Answer: api.Answer{End: api.Done, Frame: frame, Rights: rights}}
}

func refused(code int) api.Event { return api.Event{Code: code} }

// lets says which accesses rights let go on, one right behind the other.
func lets(rights int, a api.Access) bool {
	if a.Kind == api.Write && rights&1 == 0 {
		return false
	}
	if a.User && rights&2 == 0 {
		return false
	}
	return a.Kind != api.Run || rights&4 != 0
}

// mappings are what is mapped, by their pages, rising.
type mappings []api.Map

// at tells the place of the mapping that has a page; -1: none.
func (l mappings) at(p int) int {
	return slices.IndexFunc(l, func(m api.Map) bool { return p >= m.Page && p < m.Page+spans[m.Size] })
}

// follow tells what is mapped behind a step, too, that has no code.
func (l mappings) follow(x api.Step) mappings {
	l = slices.Clone(l)
	switch x.Kind {
	case api.SMap:
		l = append(l, x.M)
		slices.SortFunc(l, func(a, b api.Map) int { return cmp.Compare(a.Page, b.Page) })
	case api.SUnmap:
		i := l.at(x.M.Page)
		l = slices.Delete(l, i, i+1)
	case api.SProtect:
		l[l.at(x.M.Page)].Rights = x.M.Rights
	}
	return l
}

// end tells how an access ends by what is mapped.
func (l mappings) end(a api.Access) api.Event {
	i := l.at(a.Page)
	switch {
	case i < 0:
		return notMapped
	case !lets(l[i].Rights, a):
		return notAllowed
	}
	return done(l[i].Frame+a.Page-l[i].Page, l[i].Rights)
}

// tables tells how many tables mappings need: the root's, and, of each level from that of a mapping's leaf up to the one below the root's, the one that has its page.
func (l mappings) tables() int {
	type table struct{ level, ahead int }
	need := map[table]bool{}
	for _, m := range l {
		for level := m.Size; level < 3; level++ {
			need[table{level, m.Page >> (3 * (level + 1))}] = true
		}
	}
	return 1 + len(need)
}

// scene is a script, and of what.
type scene struct {
	cores, n int
	steps    []api.Step
}

// scenes tells scripts of one core to four, no step of which has a code: none at all, with changes that are not over, accesses on their way, and lines.
func scenes() []scene {
	all := []scene{{1, 1, nil}, {4, api.MaxFrames, nil}, {1, 4, steps(smap(small))}}
	three := steps(smap(small), smap(large), smap(huge))
	onTheWay := steps(three, read(0, 5), times(3, walk(0)), write(1, 12), walk(1))
	lines := steps(three, write(0, 5), times(5, walk(0)), read(1, 9), times(4, walk(1)))
	for _, ahead := range [][]api.Step{three, onTheWay, lines, steps(lines, read(1, 130), walk(1))} {
		all = append(all, scene{2, 5, ahead})
		for _, change := range steps(unmap(5), unmap(130), protect(12, 4), protect(5, 3)) {
			begun := steps(ahead, change)
			all = append(all, scene{2, 5, begun}, scene{2, 5, steps(begun, ack(1))}, scene{3, 6, steps(begun, ack(0), ack(2))}, scene{4, 20, begun}, scene{2, 5, steps(begun, ack(1), ack(0))})
		}
	}
	return all
}

// mustNew tells a new Watch.
func mustNew(t *testing.T, cores, n int) *watch.Watch {
	t.Helper()
	w, fault := watch.New(cores, n)
	if w == nil || fault != (api.Fault{}) {
		t.Fatalf("watch.New(%d, %d): %v, %v", cores, n, w, fault)
	}
	return w
}

// mustDo makes a Watch's step, and tells what it came to.
func mustDo(t *testing.T, w *watch.Watch, x api.Step) api.Event {
	t.Helper()
	e, fault := w.Do(x)
	if fault != (api.Fault{}) {
		t.Fatalf("Do(%v): the fault %v", x, fault)
	}
	return e
}

// mustRun fails unless a script comes to these events, without a fault.
func mustRun(t *testing.T, x scene, want []api.Event) {
	t.Helper()
	if got, fault := trace.Run(x.cores, x.n, x.steps); !slices.Equal(got, want) || fault != (api.Fault{}) {
		t.Fatalf("Run(%d, %d, %v):\n%v, %v, want\n%v and no fault", x.cores, x.n, x.steps, got, fault, want)
	}
}

// mustNotRun fails unless a script has this fault, and comes to nothing else.
func mustNotRun(t *testing.T, x scene, want api.Fault) {
	t.Helper()
	if got, fault := trace.Run(x.cores, x.n, x.steps); len(got) != 0 || fault != want {
		t.Fatalf("Run(%d, %d, of %d steps): %d events, %v, want none and %v", x.cores, x.n, len(x.steps), len(got), fault, want)
	}
}

// mustCalm fails unless Calm's steps come to these events, without a fault.
func mustCalm(t *testing.T, w *watch.Watch, want []api.Event) {
	t.Helper()
	if got, fault := trace.Calm(w); !slices.Equal(got, want) || fault != (api.Fault{}) {
		t.Fatalf("Calm:\n%v, %v, want\n%v and no fault", got, fault, want)
	}
}
