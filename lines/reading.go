package lines

import (
	"slices"
	"strconv"

	"nosale/api"
)

// Wrong is the error of a text of which a line is wrong; the line is 0 if there is none.
type Wrong struct{ Line int }

func (w Wrong) Error() string { return "line " + strconv.Itoa(w.Line) + " is wrong" }

// Reading is the word and the fields of a line that are still to be read. Once one of them does not have its form it is wrong, and what is read of it no longer counts.
type Reading struct {
	fields []string
	wrong  bool
}

// Read begins to read a line.
func Read(line string) *Reading { return &Reading{fields: Fields(line)} }

// Right tells whether all of the line was read, and nothing of it is wrong.
func (r *Reading) Right() bool { return !r.wrong && len(r.fields) == 0 }

// Fail says that the line is wrong.
func (r *Reading) Fail() { r.wrong = true }

// Word reads a field of any bytes.
func (r *Reading) Word() string {
	if len(r.fields) == 0 || r.fields[0] == "" {
		r.wrong = true
		return ""
	}
	field := r.fields[0]
	r.fields = r.fields[1:]
	return field
}

// OneOf reads a field that is one of some words, and returns its index among them.
func (r *Reading) OneOf(words ...string) int {
	i := slices.Index(words, r.Word())
	if i < 0 {
		r.wrong = true
		return 0
	}
	return i
}

// Number reads a field that is a number.
func (r *Reading) Number() int {
	n, ok := Number(r.Word())
	r.wrong = r.wrong || !ok
	return n
}

// List reads a field that is a list.
func (r *Reading) List() []int {
	list, ok := List(r.Word())
	r.wrong = r.wrong || !ok
	return list
}

// Span reads a field that is a span.
func (r *Reading) Span() api.Span {
	s, ok := Span(r.Word())
	r.wrong = r.wrong || !ok
	return s
}
