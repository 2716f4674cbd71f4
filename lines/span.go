package lines

import (
	"strconv"
	"strings"

	"nosale/api"
)

// between stands between the two ends of a span.
const between = ".."

// Span returns the span that a field stands for, and whether it has the form of one.
func Span(field string) (api.Span, bool) {
	first, second, two := strings.Cut(field, between)
	if !two {
		second = first
	}
	low, ok := Number(first)
	high, also := Number(second)
	if !ok || !also || two && low == high {
		return api.Span{}, false
	}
	return api.Span{Low: low, High: high}, true
}

// WriteSpan returns a span as it stands in a line.
func WriteSpan(s api.Span) string {
	if s.Low == s.High {
		return strconv.Itoa(s.Low)
	}
	return strconv.Itoa(s.Low) + between + strconv.Itoa(s.High)
}
