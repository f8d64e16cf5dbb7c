package shoot_test

import (
	"maps"
	"slices"
	"testing"

	"wayleave/api"
	"wayleave/shoot"
)

// model says what the chapter says, by what each core has to look after.
type model map[int]api.Map

func (m model) post(x api.Map, cores int) bool {
	if len(m) > 0 || !slices.Contains([]int{1, 2, 3, 4}, cores) {
		return false
	}
	for core := range cores {
		m[core] = x
	}
	return true
}

func (m model) ack(core int) (api.Map, bool) {
	x, waits := m[core]
	delete(m, core)
	return x, waits
}

func (m model) cores() []int {
	return slices.Sorted(maps.Keys(m))
}

// asked is what may be asked of a Shoot: a Post of m to n cores, or an Ack of the core n.
type asked struct {
	isPost bool
	m      api.Map
	n      int
}

// mustAgree asks a Shoot and the model the same, and fails unless they answer the same, and the same cores wait.
func mustAgree(t *testing.T, s *shoot.Shoot, m model, x asked) {
	t.Helper()
	if x.isPost {
		mustPost(t, s, x.m, x.n, m.post(x.m, x.n))
	} else if want, waits := m.ack(x.n); waits {
		mustAck(t, s, x.n, want)
	} else {
		mustNotAck(t, s, x.n)
	}
	mustWait(t, s, m.cores()...)
}

// TestEveryOrder goes through all orders of three calls, right ones and wrong ones, from every state on.
func TestEveryOrder(t *testing.T) {
	var calls []asked
	for n := range 6 {
		calls = append(calls, asked{true, other, n}, asked{false, api.Map{}, n - 1})
	}
	calls = append(calls, asked{true, first, 2}, asked{true, api.Map{Page: -1, Size: 9}, 4})
	count := len(calls)
	for _, x := range states() {
		for order := range count * count * count {
			s, m := x.reach(t), model{}
			for _, core := range x.waits() {
				m[core] = first
			}
			for rest, n := order, 0; n < 3; rest, n = rest/count, n+1 {
				mustAgree(t, s, m, calls[rest%count])
			}
		}
	}
}

// TestLongRuns goes on for long with several Shoots, each by its model, by a fixed rule.
func TestLongRuns(t *testing.T) {
	for seed := range 4 {
		state := uint64(seed + 1)
		below := func(end int) int {
			state = state*6364136223846793005 + 1442695040888963407
			return int(state>>33) % end
		}
		var shoots [3]*shoot.Shoot
		var models [3]model
		for k := range shoots {
			shoots[k], models[k] = shoot.New(), model{}
		}
		for n := range 5000 {
			k := below(len(shoots))
			// Each mapping is told apart from all others, so that none is told that was posted long ago.
			x := asked{isPost: below(4) == 0, m: api.Map{Page: n, Frame: 5000 - n, Rights: below(8)}, n: below(6)}
			if below(16) == 0 {
				x.n = farOff[below(len(farOff))]
			}
			mustAgree(t, shoots[k], models[k], x)
		}
	}
}

// TestSameAsked: two Shoots of which the same was asked answer the same.
func TestSameAsked(t *testing.T) {
	for _, x := range states() {
		for _, m := range someMaps {
			for n := -1; n <= 5; n++ {
				one, two := x.reach(t), x.reach(t)
				if a, b := one.Post(m, n), two.Post(m, n); a != b {
					t.Fatalf("Post(%v, %d): %v and %v", m, n, a, b)
				}
				a, told := one.Ack(n)
				b, toldToo := two.Ack(n)
				if a != b || told != toldToo || one.Over() != two.Over() || one.Waits(0) != two.Waits(0) {
					t.Fatalf("Ack(%d): %v, %v and %v, %v", n, a, told, b, toldToo)
				}
			}
		}
	}
}
