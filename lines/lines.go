// Package lines reads and writes the lines of a text, their numbers and their lists (rule R9 of shared/DOC.md).
package lines

import (
	"strconv"
	"strings"
)

// none is how a list without numbers is written.
const none = "none"

// Most is the greatest number that can stand in a field; the least one is as far below 0.
const Most = 999999999

// Line is a line of a text.
type Line interface {
	// Text returns the line without its line feed.
	Text() string
}

// Write returns the text that consists of some lines.
func Write(all []Line) string {
	var text strings.Builder
	for _, l := range all {
		text.WriteString(l.Text() + "\n")
	}
	return text.String()
}

// Follows tells whether a line that has a place can stand behind so many others, the last of which has the place before. Places are numbers in the order in which lines stand; 0 is the place of the first line, and of no other.
func Follows(place, before, others int) bool {
	return (place == 0) == (others == 0) && place >= before
}

// Split returns the lines of a text; the last one need not end with a line feed.
func Split(text string) []string {
	if text == "" {
		return nil
	}
	return strings.Split(strings.TrimSuffix(text, "\n"), "\n")
}

// Fields returns the word of a line and its fields. A field is empty where there is a blank too many.
func Fields(line string) []string { return strings.Split(line, " ") }

// Number returns the number that a field stands for, and whether it has the form of one.
func Number(field string) (int, bool) {
	n, err := strconv.Atoi(field)
	if err != nil || n < -Most || n > Most || strconv.Itoa(n) != field {
		return 0, false
	}
	return n, true
}

// List returns the numbers of a list, and whether it has the form of one.
func List(field string) ([]int, bool) {
	if field == none {
		return nil, true
	}
	var list []int
	for _, part := range strings.Split(field, "+") {
		n, ok := Number(part)
		if !ok {
			return nil, false
		}
		list = append(list, n)
	}
	return list, true
}

// WriteList returns a list as it stands in a line.
func WriteList(list []int) string {
	if len(list) == 0 {
		return none
	}
	var parts []string
	for _, n := range list {
		parts = append(parts, strconv.Itoa(n))
	}
	return strings.Join(parts, "+")
}
