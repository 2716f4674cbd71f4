// Package histories tells what is so in all ways in which something can have happened (section Terms of shared/DOC.md).
package histories

import (
	"iter"
	"maps"
	"slices"

	"nosale/api"
)

// Any tells whether there is a history.
func Any[H any](all iter.Seq[H]) bool {
	for range all {
		return true
	}
	return false
}

// Count returns how many histories there are.
func Count[H any](all iter.Seq[H]) int {
	many := 0
	for range all {
		many++
	}
	return many
}

// Numbers returns a number of each history, ascending, each once; Odds if there is no history.
func Numbers[H any](all iter.Seq[H], number func(h H) int) ([]int, api.Bell) {
	found := map[int]bool{}
	for h := range all {
		found[number(h)] = true
	}
	if len(found) == 0 {
		return nil, api.Odds
	}
	return slices.Sorted(maps.Keys(found)), api.Fine
}

// Sure returns how sure something is; Odds if there is no history.
func Sure[H any](all iter.Seq[H], is func(h H) bool) (api.Sure, api.Bell) {
	many, so := 0, 0
	for h := range all {
		many++
		if is(h) {
			so++
		}
	}
	switch {
	case many == 0:
		return 0, api.Odds
	case so == many:
		return api.Yes, api.Fine
	case so == 0:
		return api.No, api.Fine
	}
	return api.Open, api.Fine
}
