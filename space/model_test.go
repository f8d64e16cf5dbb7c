package space_test

import (
	"fmt"
	"slices"
	"strings"

	"wayleave/api"
	"wayleave/tlb"
)

// leaf is a mapping, and the marks of its entry.
type leaf struct {
	m           api.Map
	used, dirty bool
}

// spot names a table: of a level, the number at of those of its level, counted by their pages.
type spot struct{ level, at int }

func spotOf(level, p int) spot { return spot{level, p / spans[level+1]} }

// walking is what a core is to be: what it keeps, and, if an access is on its way, the level of the word that it reads next, or the leaf that it marks next.
type walking struct {
	waits bool
	lines []tlb.Line
	on    bool
	a     api.Access
	level int
	marks []leaf
}

func (c *walking) again() {
	c.level, c.marks = 3, nil
}

func (c *walking) off(e api.Event) api.Event {
	c.on, c.a, c.level, c.marks = false, api.Access{}, 0, nil
	return e
}

// drop takes the lines away that have a page in common with a mapping.
func (c *walking) drop(m api.Map) {
	c.lines = slices.DeleteFunc(slices.Clone(c.lines), func(l tlb.Line) bool { return has(l.M, m.Page) || has(m, l.M.Page) })
}

// keep ends the way at a leaf, the line of which is kept.
func (c *walking) keep(l leaf) api.Event {
	c.drop(l.m)
	c.lines = append(c.lines, tlb.Line{M: l.m, Dirty: l.dirty})
	c.lines = c.lines[max(0, len(c.lines)-6):]
	return c.off(done(l.m.Frame+c.a.Page-l.m.Page, l.m.Rights))
}

// model says what the chapters say of a Space, by its mappings: it has no words, and a table is there as long as something is mapped by it.
type model struct {
	leaves []leaf // by their pages, rising
	tables map[spot]int
	free   []int // in the order in which they will be taken
	told   api.Map
	gone   []int
	cores  []*walking
}

func newModel(cores, n int) *model {
	m := &model{tables: map[spot]int{{3, 0}: 0}, free: upTo(n)[1:]}
	for range cores {
		m.cores = append(m.cores, &walking{})
	}
	return m
}

func (m *model) busy() bool {
	return slices.ContainsFunc(m.cores, func(c *walking) bool { return c.waits })
}

// find tells the place of the leaf that has a page; -1: there is none.
func (m *model) find(p int) int {
	return slices.IndexFunc(m.leaves, func(l leaf) bool { return has(l.m, p) })
}

func (m *model) do(x api.Step) api.Event {
	isChange := x.Kind >= 1 && x.Kind <= 3
	switch {
	case isChange && m.busy():
		return refused(api.ErrBusy)
	case x.Kind == api.SMap:
		return m.insert(x.M)
	case x.Kind == api.SUnmap:
		return m.remove(x.M.Page)
	case x.Kind == api.SProtect:
		return m.protect(x.M.Page, x.M.Rights)
	case x.Kind < 1 || x.Kind > 7:
		return refused(api.ErrKind)
	case x.Core < 0 || x.Core >= len(m.cores):
		return refused(api.ErrRange)
	}
	c := m.cores[x.Core]
	switch x.Kind {
	case api.SAccess:
		return c.begin(x.A)
	case api.SWalk:
		return m.walk(c)
	case api.SAck:
		return m.ack(c)
	}
	if len(c.lines) == 0 {
		return refused(api.ErrIdle)
	}
	c.lines = c.lines[1:]
	return going
}

func (m *model) insert(x api.Map) api.Event {
	if code := mapCode(x); code != 0 {
		return refused(code)
	}
	for i := range spans[x.Size] {
		if m.find(x.Page+i) >= 0 {
			return refused(api.ErrThere)
		}
	}
	var wanting []spot
	for level := 2; level >= x.Size; level-- {
		if _, there := m.tables[spotOf(level, x.Page)]; !there {
			wanting = append(wanting, spotOf(level, x.Page))
		}
	}
	if len(wanting) > len(m.free) {
		return refused(api.ErrFull)
	}
	for _, at := range wanting {
		m.tables[at] = m.free[0]
		m.free = m.free[1:]
	}
	m.leaves = append(m.leaves, leaf{m: x})
	slices.SortFunc(m.leaves, func(a, b leaf) int { return a.m.Page - b.m.Page })
	return back
}

// mapCode says what the chapter of pages says of Check.
func mapCode(x api.Map) int {
	switch {
	case x.Size < 0 || x.Size > 2:
		return api.ErrKind
	case x.Page < 0 || x.Page > last || x.Frame < 0 || x.Frame >= 1<<20 || x.Rights < 0 || x.Rights > 7:
		return api.ErrRange
	case x.Page%spans[x.Size] != 0 || x.Frame%spans[x.Size] != 0:
		return api.ErrAlign
	}
	return 0
}

func (m *model) remove(p int) api.Event {
	if p < 0 || p > last {
		return refused(api.ErrRange)
	}
	i := m.find(p)
	if i < 0 {
		return refused(api.ErrNone)
	}
	x := m.leaves[i].m
	m.leaves = slices.Delete(slices.Clone(m.leaves), i, i+1)
	for level := x.Size; level < 3 && !m.isLed(level, p); level++ {
		m.gone = append(m.gone, m.tables[spotOf(level, p)])
		delete(m.tables, spotOf(level, p))
	}
	return m.tell(x)
}

// isLed says whether something is mapped by the table of a level on the way to a page.
func (m *model) isLed(level, p int) bool {
	return slices.ContainsFunc(m.leaves, func(l leaf) bool {
		return l.m.Size <= level && spotOf(level, l.m.Page) == spotOf(level, p)
	})
}

func (m *model) protect(p, rights int) api.Event {
	if p < 0 || p > last || rights < 0 || rights > 7 {
		return refused(api.ErrRange)
	}
	i := m.find(p)
	if i < 0 {
		return refused(api.ErrNone)
	}
	m.leaves[i].m.Rights = rights
	return m.tell(m.leaves[i].m)
}

func (m *model) tell(x api.Map) api.Event {
	m.told = x
	for _, c := range m.cores {
		c.waits = true
	}
	return going
}

func (m *model) ack(c *walking) api.Event {
	if !c.waits {
		return refused(api.ErrIdle)
	}
	c.waits = false
	c.drop(m.told)
	if c.on {
		c.again()
	}
	if m.busy() {
		return going
	}
	for _, k := range m.gone {
		m.free = append([]int{k}, m.free...)
	}
	m.gone, m.told = nil, api.Map{}
	return back
}

func (c *walking) begin(a api.Access) api.Event {
	switch {
	case a.Kind < 0 || a.Kind > 2:
		return refused(api.ErrKind)
	case a.Page < 0 || a.Page > last:
		return refused(api.ErrRange)
	case c.on:
		return refused(api.ErrBusy)
	}
	for _, l := range c.lines {
		switch {
		case !has(l.M, a.Page):
		case !lets(l.M.Rights, a):
			return notAllowed
		case a.Kind != api.Write || l.Dirty:
			return done(l.M.Frame+a.Page-l.M.Page, l.M.Rights)
		}
	}
	c.on, c.a = true, a
	c.again()
	return going
}

func (m *model) walk(c *walking) api.Event {
	if !c.on {
		return refused(api.ErrIdle)
	}
	i := m.find(c.a.Page)
	if len(c.marks) > 0 {
		if i < 0 || m.leaves[i] != c.marks[0] {
			c.again()
			return going
		}
		m.leaves[i].used = true
		m.leaves[i].dirty = m.leaves[i].dirty || c.a.Kind == api.Write
		return c.keep(m.leaves[i])
	}
	if i < 0 || m.leaves[i].m.Size != c.level {
		// A table that went is not led to, and neither is one below it.
		if c.level == 0 || !m.isLed(c.level-1, c.a.Page) {
			return c.off(notMapped)
		}
		c.level--
		return going
	}
	l := m.leaves[i]
	switch {
	case !lets(l.m.Rights, c.a):
		return c.off(notAllowed)
	case !l.used || c.a.Kind == api.Write && !l.dirty:
		c.marks = []leaf{l}
		return going
	}
	return c.keep(l)
}

// below tells the tables from one on, in the order of the ways.
func (m *model) below(level, p int) []int {
	all := []int{m.tables[spotOf(level, p)]}
	if level == 0 {
		return all
	}
	for place := range 8 {
		if q := p + place*spans[level]; m.isLed(level-1, q) {
			all = append(all, m.below(level-1, q)...)
		}
	}
	return all
}

// look tells what is to be told of the Space.
func (m *model) look() sight {
	x := sight{tables: m.below(3, 0), busy: m.busy(), free: len(m.free), gone: len(m.gone), count: len(m.cores)}
	for _, l := range m.leaves {
		x.list = append(x.list, l.m)
	}
	for _, p := range somePages {
		x.finds = append(x.finds, m.findOf(p))
	}
	for _, c := range m.cores {
		x.cores = append(x.cores, onCore{kept: c.lines, a: c.a, on: c.on, waits: c.waits})
	}
	return x
}

func (m *model) findOf(p int) found {
	i := m.find(p)
	if i < 0 {
		return found{code: api.ErrNone}
	}
	l := m.leaves[i]
	return found{m: l.m, e: api.Entry{There: true, Leaf: true, Rights: l.m.Rights, Used: l.used, Dirty: l.dirty, Frame: l.m.Frame}}
}

func (m *model) clone() *model {
	other := &model{leaves: slices.Clone(m.leaves), tables: map[spot]int{}, free: slices.Clone(m.free), told: m.told, gone: slices.Clone(m.gone)}
	for at, k := range m.tables {
		other.tables[at] = k
	}
	for _, c := range m.cores {
		d := *c
		d.lines, d.marks = slices.Clone(c.lines), slices.Clone(c.marks)
		other.cores = append(other.cores, &d)
	}
	return other
}

// key tells two models apart that are not the same.
func (m *model) key() string {
	var b strings.Builder
	fmt.Fprint(&b, m.leaves, m.tables, m.free, m.told, m.gone)
	for _, c := range m.cores {
		fmt.Fprint(&b, *c)
	}
	return b.String()
}
