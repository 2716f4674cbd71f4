// Package histories tells what is so in all ways in which something can have happened (section Terms of shared/DOC.md).
package histories

import (
	"iter"
	"maps"
	"slices"

	"nosale/api"
	"nosale/spans"
)

// Any tells whether there is a history.
func Any[H any](all iter.Seq[H]) bool {
	for range all {
		return true
	}
	return false
}

// IfAny returns a book, whose bell is told, if it has none, and a history; Odds if it has no history.
func IfAny[B, H any](b B, l api.Bell, all func() iter.Seq[H]) (B, api.Bell) {
	if l == api.Fine && !Any(all()) {
		l = api.Odds
	}
	if l != api.Fine {
		var none B
		return none, l
	}
	return b, api.Fine
}

// Count returns how many histories there are.
func Count[H any](all iter.Seq[H]) int {
	many := 0
	for range all {
		many++
	}
	return many
}

// Numbers returns a number of each history, ascending, each once; Odds if there is no history.
func Numbers[H any](all iter.Seq[H], number func(h H) int) ([]int, api.Bell) {
	found := map[int]bool{}
	for h := range all {
		found[number(h)] = true
	}
	if len(found) == 0 {
		return nil, api.Odds
	}
	return slices.Sorted(maps.Keys(found)), api.Fine
}

// Sure returns how sure something is; Odds if there is no history.
func Sure[H any](all iter.Seq[H], is func(h H) bool) (api.Sure, api.Bell) {
	many, so := 0, 0
	for h := range all {
		many++
		if is(h) {
			so++
		}
	}
	switch {
	case many == 0:
		return 0, api.Odds
	case so == many:
		return api.Yes, api.Fine
	case so == 0:
		return api.No, api.Fine
	}
	return api.Open, api.Fine
}

// Span returns the span from the least to the greatest number of a history; Odds if there is no history.
func Span[H any](all iter.Seq[H], number func(h H) int) (api.Span, api.Bell) {
	var s api.Span
	found := false
	for h := range all {
		n := number(h)
		if !found {
			s, found = spans.One(n), true
		}
		s = spans.Joined(s, spans.One(n))
	}
	if !found {
		return api.Span{}, api.Odds
	}
	return s, api.Fine
}

// Ask returns the first of so many things whose number leaves the fewest histories at most once it is known, and how many those are; -1, and all histories, if none leaves fewer.
func Ask[H any](all []H, things int, number func(h H, thing int) int) (thing, left int) {
	return Best(len(all), things, func(thing int) int {
		return mostAlike(all, func(h H) int { return number(h, thing) })
	})
}

// Best returns the first of so many things that leaves the fewest of so many histories at most, and how many those are; -1, and all, if none leaves fewer.
func Best(all, things int, most func(thing int) int) (thing, left int) {
	thing, left = -1, all
	for i := range things {
		if n := most(i); n < left {
			thing, left = i, n
		}
	}
	return thing, left
}

// mostAlike returns how many histories have the same number, at most.
func mostAlike[H any](all []H, number func(h H) int) int {
	alike, most := map[int]int{}, 0
	for _, h := range all {
		n := number(h)
		alike[n]++
		most = max(most, alike[n])
	}
	return most
}
