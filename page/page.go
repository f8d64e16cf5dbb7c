// Package page: see doc/01-page.md.
package page

import (
	"wayleave/api"
)

// Span tells how many pages a mapping of the size has; 0: there is no such size.
func Span(size int) int {
	switch size {
	case api.Small:
		return 1
	case api.Large:
		return api.Fan
	case api.Huge:
		return api.Fan * api.Fan
	}
	return 0
}

// Has tells whether it is a page of a space.
func Has(page int) bool {
	return isBelow(page, api.Pages)
}

// Index tells the place of a page in the table of a level, on its way; -1: there is no such page or level.
func Index(page, level int) int {
	if !Has(page) || !isBelow(level, api.Levels) {
		return -1
	}
	for range level {
		page /= api.Fan
	}
	return page % api.Fan
}

// Check tells the first code that is so of a mapping; 0: it is one.
func Check(m api.Map) int {
	span := Span(m.Size)
	switch {
	case span == 0:
		return api.ErrKind
	case !Has(m.Page) || !isBelow(m.Frame, api.MaxData) || !areRights(m.Rights):
		return api.ErrRange
	case m.Page%span != 0 || m.Frame%span != 0:
		return api.ErrAlign
	}
	return 0
}

// Over tells whether a mapping has the page; one of no size never does.
func Over(m api.Map, page int) bool {
	// Two ints may lie further apart than an int can tell; the distance upwards always fits a uint64.
	return page >= m.Page && uint64(page-m.Page) < uint64(Span(m.Size))
}

// Meet tells whether the one mapping has the other's Page, or the other way round.
func Meet(a, b api.Map) bool {
	return Over(a, b.Page) || Over(b, a.Page)
}

// May tells whether rights let an access go on.
func May(rights int, a api.Access) bool {
	asked := asks(a)
	return rights&asked == asked
}

// CheckAccess tells the first code that is so of an access; 0: it is one.
func CheckAccess(a api.Access) int {
	switch {
	case !isKind(a.Kind):
		return api.ErrKind
	case !Has(a.Page):
		return api.ErrRange
	}
	return 0
}

// Answer tells how an access ends, of a mapping that has its page.
func Answer(m api.Map, a api.Access) api.Answer {
	if !May(m.Rights, a) {
		return api.Answer{End: api.NotAllowed}
	}
	return api.Answer{End: api.Done, Frame: m.Frame + (a.Page - m.Page), Rights: m.Rights}
}

// asks tells the rights without which an access can't go on.
func asks(a api.Access) int {
	rights := 0
	switch a.Kind {
	case api.Write:
		rights = api.MayWrite
	case api.Run:
		rights = api.MayRun
	}
	if a.User {
		rights |= api.MayUser
	}
	return rights
}

func isKind(kind int) bool {
	return kind == api.Read || kind == api.Write || kind == api.Run
}

func areRights(rights int) bool {
	return isBelow(rights, (api.MayWrite|api.MayUser|api.MayRun)+1)
}

// isBelow tells whether a number is from 0 to end - 1.
func isBelow(number, end int) bool {
	return number >= 0 && number < end
}
