package desk

import (
	"strconv"
	"strings"

	"wayleave/api"
)

// telling is what has been told.
type telling struct {
	strings.Builder
}

// tell tells one thing: a word, and numbers behind it.
func (t *telling) tell(word string, numbers ...int) {
	t.WriteString(word)
	for _, n := range numbers {
		t.WriteByte(' ')
		t.WriteString(strconv.Itoa(n))
	}
	t.WriteByte('\n')
}

// tellMap tells a word, a mapping, and what else there is to tell of it.
func (t *telling) tellMap(word string, m api.Map, more ...int) {
	t.tell(word, append([]int{m.Page, m.Size, m.Frame, m.Rights}, more...)...)
}

// tellEvents tells what steps came to; or, in their place, the Watch's fault.
func (t *telling) tellEvents(fault api.Fault, events ...api.Event) {
	if fault != (api.Fault{}) {
		t.tell("no", fault.Code, fault.At)
		return
	}
	for _, e := range events {
		t.tellEvent(e)
	}
}

// tellEvent tells what one step came to.
func (t *telling) tellEvent(e api.Event) {
	switch {
	case e.Code != 0:
		t.tell("no", e.Code)
	case e.Ended:
		t.tellAnswer(e.Answer)
	case e.Back:
		t.tell("back")
	default:
		t.tell("ok")
	}
}

// tellAnswer tells how an access ended.
func (t *telling) tellAnswer(a api.Answer) {
	switch a.End {
	case api.NotMapped:
		t.tell("unmapped")
	case api.NotAllowed:
		t.tell("forbidden")
	default:
		t.tell("frame", a.Frame, a.Rights)
	}
}

// bit tells 1 of what is so, else 0.
func bit(is bool) int {
	if is {
		return 1
	}
	return 0
}
