// Package oracle goes through all that can have happened one by one, and tells what follows from it: the tests of the layers compare the layers with it. It calls nothing of them, and nothing that they call.
package oracle

import (
	"cmp"
	"slices"

	"nosale/api"
)

// UpTo returns the numbers from low to high.
func UpTo(low, high int) []int {
	var list []int
	for n := low; n <= high; n++ {
		list = append(list, n)
	}
	return list
}

// Indexes returns the indexes of so many things.
func Indexes(n int) []int { return UpTo(0, n-1) }

// Combined returns all lists that have one of some elements at each place, in the order of these.
func Combined[E any](places [][]E) [][]E {
	all := [][]E{nil}
	for _, some := range places {
		var longer [][]E
		for _, list := range all {
			for _, e := range some {
				longer = append(longer, append(slices.Clone(list), e))
			}
		}
		all = longer
	}
	return all
}

// Chosen returns all lists of some things, so many at most, in their order.
func Chosen[E any](things []E, most int) [][]E {
	if len(things) == 0 {
		return [][]E{nil}
	}
	rest := Chosen(things[1:], most)
	if most == 0 {
		return rest
	}
	for _, list := range Chosen(things[1:], most-1) {
		rest = append(rest, append([]E{things[0]}, list...))
	}
	return rest
}

// Subsets returns all lists of indexes below n, ascending, the shortest list first, then the least one.
func Subsets(n int) [][]int {
	all := Chosen(Indexes(n), n)
	slices.SortFunc(all, func(a, b []int) int { return cmp.Or(cmp.Compare(len(a), len(b)), slices.Compare(a, b)) })
	return all
}

// Picked returns those of some things that stand at some places.
func Picked[E any](things []E, places []int) []E {
	var some []E
	for _, i := range places {
		some = append(some, things[i])
	}
	return some
}

// Kept returns those for which something is so.
func Kept[P any](all []P, is func(p P) bool) []P {
	var some []P
	for _, p := range all {
		if is(p) {
			some = append(some, p)
		}
	}
	return some
}

// Numbers returns a number of each, ascending, each once.
func Numbers[P any](all []P, number func(p P) int) []int {
	var list []int
	for _, p := range all {
		list = append(list, number(p))
	}
	slices.Sort(list)
	return slices.Compact(list)
}

// Span returns the span from the least to the greatest number; there is one at least.
func Span[P any](all []P, number func(p P) int) api.Span {
	list := Numbers(all, number)
	return api.Span{Low: list[0], High: list[len(list)-1]}
}

// Sure returns how sure something is; there is one at least.
func Sure[P any](all []P, is func(p P) bool) api.Sure {
	switch len(Kept(all, is)) {
	case 0:
		return api.No
	case len(all):
		return api.Yes
	}
	return api.Open
}

// Left returns how many are left at most once a number is known.
func Left[P any](all []P, number func(p P) int) int {
	most := 0
	for _, n := range Numbers(all, number) {
		most = max(most, len(Kept(all, func(p P) bool { return number(p) == n })))
	}
	return most
}

// Ask returns the first of so many things whose number leaves the fewest at most once it is known, and how many those are; -1, and all, if none leaves fewer.
func Ask[P any](all []P, things int, number func(p P, thing int) int) (thing, left int) {
	thing, left = -1, len(all)
	for i := range things {
		if n := Left(all, func(p P) int { return number(p, i) }); n < left {
			thing, left = i, n
		}
	}
	return thing, left
}

// Has tells whether a number is one of a span.
func Has(s api.Span, n int) bool { return n >= s.Low && n <= s.High }

// IsNarrow tells whether a span has no numbers but those of another one.
func IsNarrow(s, wide api.Span) bool { return s.Low >= wide.Low && s.High <= wide.High }

// Within tells whether a list has nothing that another one has not.
func Within[E comparable](few, all []E) bool {
	return !slices.ContainsFunc(few, func(e E) bool { return !slices.Contains(all, e) })
}

// IsSo tells whether what is told to be sure agrees with what is so.
func IsSo(sure api.Sure, is bool) bool { return sure == api.Open || (sure == api.Yes) == is }
