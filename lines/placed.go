package lines

import "nosale/api"

// Placed is a line that has its place among the kinds of lines of a text.
type Placed interface {
	Line
	// Place returns a number of the order in which lines stand; 0 is that of the first line, and of no other.
	Place() int
}

// wrongLine is what reading panics with at a line that does not have its form, or its place.
type wrongLine struct{}

// need panics if a line is not as it is to be.
func need(right bool) {
	if !right {
		panic(wrongLine{})
	}
}

// ReadPlaced reads the lines of a text in their order, and adds each of them; it returns the bell of the text, and the first line that is wrong, 0 if there is none. A line that is wrong when it was read is neither looked at nor added.
func ReadPlaced(text string, read func(r *Reading) Placed, add func(l Placed)) (line int, l api.Bell) {
	if len(text) > api.MaxText {
		return 0, api.Count
	}
	at := 0
	defer func() {
		if _, wrong := recover().(wrongLine); wrong {
			line, l = at, api.Shape
		}
	}()
	texts := Split(text)
	need(len(texts) > 0)
	before := 0
	for others, text := range texts {
		at = others + 1
		r := Read(text)
		next := read(r)
		need(r.Right())
		need(Follows(next.Place(), before, others))
		before = next.Place()
		add(next)
	}
	return 0, api.Fine
}
