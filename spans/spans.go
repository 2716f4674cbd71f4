// Package spans tells what numbers and spans are within bounds (section Terms of shared/DOC.md).
package spans

import "nosale/api"

// Within tells whether a number is from low to high.
func Within(n, low, high int) bool { return low <= n && n <= high }

// IsFrom tells whether a span is one from low to high.
func IsFrom(s api.Span, low, high int) bool {
	return Within(s.Low, low, s.High) && s.High <= high
}

// Has tells whether a number is one of a span.
func Has(s api.Span, n int) bool { return Within(n, s.Low, s.High) }

// Many returns how many numbers a span within bounds has.
func Many(s api.Span) int { return s.High - s.Low + 1 }

// Common returns what two spans have in common, and whether that is anything.
func Common(a, b api.Span) (api.Span, bool) {
	s := api.Span{Low: max(a.Low, b.Low), High: min(a.High, b.High)}
	if s.Low > s.High {
		return api.Span{}, false
	}
	return s, true
}

// Together returns the span of what several things amount to together, of each of which a span is told.
func Together[E any](tell func(e E) api.Span, several ...E) api.Span {
	var all api.Span
	for _, e := range several {
		s := tell(e)
		all = api.Span{Low: all.Low + s.Low, High: all.High + s.High}
	}
	return all
}
