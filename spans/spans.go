// Package spans tells what numbers and spans are within bounds (section Terms of shared/DOC.md).
package spans

import (
	"iter"

	"nosale/api"
)

// Within tells whether a number is from low to high.
func Within(n, low, high int) bool { return low <= n && n <= high }

// IsFrom tells whether a span is one from low to high.
func IsFrom(s api.Span, low, high int) bool {
	return Within(s.Low, low, s.High) && s.High <= high
}

// Has tells whether a number is one of a span.
func Has(s api.Span, n int) bool { return Within(n, s.Low, s.High) }

// Many returns how many numbers a span within bounds has.
func Many(s api.Span) int { return s.High - s.Low + 1 }

// One returns the span of one number.
func One(n int) api.Span { return api.Span{Low: n, High: n} }

// Common returns what two spans have in common, and whether that is anything.
func Common(a, b api.Span) (api.Span, bool) {
	s := api.Span{Low: max(a.Low, b.Low), High: min(a.High, b.High)}
	if s.Low > s.High {
		return api.Span{}, false
	}
	return s, true
}

// Narrowed returns what is left of a span of a number if it is one of another span, too; Bound if that is not one from 0 to top, Odds if nothing is left.
func Narrowed(known, x api.Span, top int) (api.Span, api.Bell) {
	if !IsFrom(x, 0, top) {
		return api.Span{}, api.Bound
	}
	common, ok := Common(known, x)
	if !ok {
		return api.Span{}, api.Odds
	}
	return common, api.Fine
}

// Together returns the span of what several things amount to together, of each of which a span is told.
func Together[E any](tell func(e E) api.Span, several ...E) api.Span {
	var all api.Span
	for _, e := range several {
		s := tell(e)
		all = api.Span{Low: all.Low + s.Low, High: all.High + s.High}
	}
	return all
}

// Sum returns the span of what several numbers are together, each of which is one of a span, whatever the others are.
func Sum(several ...api.Span) api.Span {
	return Together(func(s api.Span) api.Span { return s }, several...)
}

// Joined returns the span from the least to the greatest number of one or more spans.
func Joined(first api.Span, others ...api.Span) api.Span {
	for _, s := range others {
		first = api.Span{Low: min(first.Low, s.Low), High: max(first.High, s.High)}
	}
	return first
}

// Filled yields all lists that have, at each of so many places, a number of the span that is told of it, the least list first. The next list takes the memory of the one before it.
func Filled(places int, span func(place int) api.Span) iter.Seq[[]int] {
	return func(yield func([]int) bool) {
		list := make([]int, places)
		// fill goes on with a place, and tells whether more is wanted.
		var fill func(place int) bool
		fill = func(place int) bool {
			if place == places {
				return yield(list)
			}
			s := span(place)
			for n := s.Low; n <= s.High; n++ {
				list[place] = n
				if !fill(place + 1) {
					return false
				}
			}
			return true
		}
		fill(0)
	}
}
