package watch_test

import (
	"testing"

	"wayleave/api"
)

// meeting is what is done first, and lists of steps that may then fall in any order, each list in its own.
type meeting struct {
	name     string
	cores, n int
	ahead    []api.Step
	lists    [][]api.Step
}

var meetings = []meeting{
	{"a way and changes of its page", 1, 4, steps(smap(small)), [][]api.Step{
		steps(write(0, 5), times(6, walk(0)), read(0, 5)),
		steps(unmap(5), ack(0), smap(other), protect(5, 1), ack(0)),
	}},
	{"a line and changes of its page", 1, 4, steps(smap(small), read(0, 5), down), [][]api.Step{
		steps(read(0, 5), write(0, 5), times(5, walk(0)), read(0, 5)),
		steps(protect(5, 0), ack(0), protect(5, 7), ack(0), unmap(5), ack(0)),
	}},
	{"two ways and an unmap", 2, 4, steps(smap(small)), [][]api.Step{
		steps(read(0, 5), times(4, walk(0))), steps(write(1, 5), times(3, walk(1))), steps(unmap(5), ack(1), ack(0)),
	}},
	{"a way, a line and a mapping anew", 2, 4, steps(smap(small), write(1, 5), times(5, walk(1))), [][]api.Step{
		steps(read(0, 5), times(3, walk(0))), steps(read(1, 5), read(1, 5), walk(1)), steps(unmap(5), ack(0), ack(1), smap(mapping(0, api.Large, 80, 7))),
	}},
	{"tables that go and are others then", 2, 4, steps(smap(small)), [][]api.Step{
		steps(write(0, 5), times(4, walk(0))), steps(read(1, last), walk(1)), steps(unmap(5), ack(1), ack(0), smap(mapping(last, api.Small, 1, 1))),
	}},
	{"rights and a page beside", 2, 4, steps(smap(small), smap(mapping(6, api.Small, 11, 1)), read(0, 5), down), [][]api.Step{
		steps(read(0, 5), write(0, 6), times(3, walk(0))), steps(write(1, 5), walk(1), evict(0)), steps(protect(5, 6), ack(1), ack(0)),
	}},
	{"three cores and two changes", 3, 4, steps(smap(small), read(0, 5), down), [][]api.Step{
		steps(read(0, 5), read(0, 5)), steps(read(1, 5), walk(1)), steps(write(2, 5)), steps(protect(5, 1), ack(2), ack(0), ack(1), unmap(5)),
	}},
}

// However the steps of cores and changes fall, there is no fault; each step comes to what a Space's comes to, and each access ends as may be.
func TestEveryOrder(t *testing.T) {
	ages := map[int]int{}
	for _, x := range meetings {
		count := 0
		eachOrder(x.lists, func(order []api.Step) {
			y := newTrio(t, x.cores, x.n)
			for _, step := range steps(x.ahead, order) {
				y.do(t, step)
			}
			y.mustBeAlike(t)
			y.mustComeToRest(t)
			count++
			for age, n := range y.ages {
				ages[age] += n
			}
		})
		t.Logf("%s: %d orders", x.name, count)
	}
	t.Logf("answers by their ages: %v", ages)
	if ages[0] == 0 || ages[1] == 0 {
		t.Errorf("the orders have not both, answers of now and of what is not over: %v", ages)
	}
}

// eachOrder hands all orders of these lists' steps to a look, one behind the other in the same memory.
func eachOrder(lists [][]api.Step, look func(order []api.Step)) {
	var order []api.Step
	at := make([]int, len(lists))
	var next func()
	next = func() {
		isEnd := true
		for n, list := range lists {
			if at[n] == len(list) {
				continue
			}
			isEnd = false
			order = append(order, list[at[n]])
			at[n]++
			next()
			at[n]--
			order = order[:len(order)-1]
		}
		if isEnd {
			look(order)
		}
	}
	next()
}

// mustComeToRest lets each core look after what it was told, and end what is on its way; then all is answered by what is mapped.
func (x *trio) mustComeToRest(t *testing.T) {
	t.Helper()
	for core := range x.w.Cores() {
		if x.w.Waits(core) {
			x.do(t, ack(core))
		}
	}
	for core := range x.w.Cores() {
		for n := 0; x.isOn(core); n++ {
			if n == 20 {
				t.Fatalf("the access of the core %d does not end", core)
			}
			x.do(t, walk(core))
		}
	}
	if x.w.Busy() || x.w.Gone() != 0 || x.h.floor != x.h.now() {
		t.Fatalf("it is not at rest: %v", look(x.w))
	}
	x.mustBeAlike(t)
}

func (x *trio) isOn(core int) bool {
	_, on := x.w.On(core)
	return on
}
