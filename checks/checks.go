// Package checks finds the first bell of a book (rule R1 of shared/DOC.md).
package checks

import (
	"slices"

	"nosale/api"
	"nosale/spans"
)

// List is one of the lists of a book: how many elements it has, and whether it can have so many; and the bell of an element, which relies on all that is checked before it (none is needed where there are no elements to look at).
type List[B any] struct {
	Long func(b B) (many int, right bool)
	Bell func(b B, i int) api.Bell
}

// First returns the first bell of some lists of a book, in their order.
func First[B any](b B, all ...List[B]) api.Bell {
	for _, list := range all {
		many, right := list.Long(b)
		if !right {
			return api.Count
		}
		for i := range many {
			if l := list.Bell(b, i); l != api.Fine {
				return l
			}
		}
	}
	return api.Fine
}

// InTurn returns the first bell of some checks, each of which relies on those before it.
func InTurn(all ...func() api.Bell) api.Bell {
	for _, check := range all {
		if l := check(); l != api.Fine {
			return l
		}
	}
	return api.Fine
}

// Each returns the first bell of a list of numbers, one for each of so many things, from 0 to top.
func Each(list []int, things, top int) api.Bell {
	if len(list) != things {
		return api.Count
	}
	for _, n := range list {
		if !spans.Within(n, 0, top) {
			return api.Bound
		}
	}
	return api.Fine
}

// Rising returns the first bell of a list of indexes of so many things, each of which is to be above the one before it.
func Rising(list []int, things int) api.Bell {
	for i, n := range list {
		if !spans.Within(n, 0, things-1) {
			return api.Missing
		}
		if i > 0 && n <= list[i-1] {
			return api.Order
		}
	}
	return api.Fine
}

// Once returns the first bell of a list of indexes of so many things, each of which is to be there once at most.
func Once(list []int, things int) api.Bell {
	for i, n := range list {
		if !spans.Within(n, 0, things-1) {
			return api.Missing
		}
		if slices.Contains(list[:i], n) {
			return api.Twice
		}
	}
	return api.Fine
}
