package lines

import (
	"errors"

	"nosale/api"
)

// Placed is a line that has its place among the kinds of lines of a text.
type Placed interface {
	Line
	// Place returns a number of the order in which lines stand; 0 is that of the first line, and of no other.
	Place() int
}

// need panics with Wrong if a line, 0 if there is none, is not as it is to be.
func need(right bool, line int) {
	if !right {
		panic(Wrong{line})
	}
}

// readAll reads the lines of a text in their order, and adds each of them; it panics at the first one that does not have its form, or its place, and if there is none. A line that is wrong when it was read is neither looked at nor added.
func readAll(text string, read func(r *Reading) Placed, add func(l Placed)) {
	texts := Split(text)
	need(len(texts) > 0, 0)
	before := 0
	for others, text := range texts {
		r := Read(text)
		next := read(r)
		need(r.Right() && Follows(next.Place(), before, others), others+1)
		before = next.Place()
		add(next)
	}
}

// readLines reads the lines of a text in their order, and adds each of them; the error is Wrong if one of them, or the text, is wrong.
func readLines(text string, read func(r *Reading) Placed, add func(l Placed)) (err error) {
	defer func() {
		if wrong, is := recover().(Wrong); is {
			err = wrong
		}
	}()
	readAll(text, read, add)
	return nil
}

// readPlaced reads the lines of a text likewise, and returns the bell of the text, and the first line that is wrong, 0 if there is none.
func readPlaced(text string, read func(r *Reading) Placed, add func(l Placed)) (line int, l api.Bell) {
	if len(text) > api.MaxText {
		return 0, api.Count
	}
	var wrong Wrong
	if errors.As(readLines(text, read, add), &wrong) {
		return wrong.Line, api.Shape
	}
	return 0, api.Fine
}

// ReadBook reads the lines of a text likewise, and returns the book that they make together, which is told with its bell; the line is 0 if none is wrong.
func ReadBook[B any](text string, read func(r *Reading) Placed, add func(l Placed), book func() (B, api.Bell)) (b B, line int, l api.Bell) {
	line, l = readPlaced(text, read, add)
	if l == api.Fine {
		b, l = book()
	}
	if l != api.Fine {
		var none B
		return none, line, l
	}
	return b, 0, api.Fine
}
