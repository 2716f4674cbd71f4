// Package names tells what a name is (section Terms of shared/DOC.md).
package names

import (
	"nosale/api"
	"nosale/spans"
)

// Is tells whether a text is a name.
func Is(text string) bool {
	if !spans.Within(len(text), 1, api.MaxName) {
		return false
	}
	for i := range len(text) {
		c := text[i]
		isLetter := 'a' <= c && c <= 'z'
		isDigit := '0' <= c && c <= '9'
		if !isLetter && (!isDigit || i == 0) {
			return false
		}
	}
	return true
}

// Bell returns the bell of one of several names, each of which is told: it is to be one, and none of those before it.
func Bell(i int, name func(i int) string) api.Bell {
	this := name(i)
	if !Is(this) {
		return api.Label
	}
	for before := range i {
		if name(before) == this {
			return api.Twice
		}
	}
	return api.Fine
}
