package tour

import (
	"strconv"
	"strings"

	"nosale/api"
	"nosale/lines"
)

// The words that lines begin with, in the order in which lines stand; the first one is that of the first line alone.
const (
	tourWord = iota
	placeWord
	wayWord
	jobWord
	noteWord
)

// lineWords returns these words.
func lineWords() []string {
	return []string{tourWord: "tour", placeWord: "place", wayWord: "way", jobWord: "job", noteWord: "note"}
}

type (
	headLine  struct{ bag, kinds int }
	placeLine string
	wayLine   api.TourWay
	jobLine   struct{ api.TourJob } // a job has a field of the name of a line's method
	noteLine  api.TourNote
)

func (l headLine) Place() int  { return tourWord }
func (l placeLine) Place() int { return placeWord }
func (l wayLine) Place() int   { return wayWord }
func (l jobLine) Place() int   { return jobWord }
func (l noteLine) Place() int  { return noteWord }

func (l headLine) Text() string {
	return written(l, strconv.Itoa(l.bag), strconv.Itoa(l.kinds))
}

func (l placeLine) Text() string { return written(l, string(l)) }

func (l wayLine) Text() string {
	return written(l, strconv.Itoa(l.A), strconv.Itoa(l.B), lines.WriteSpan(l.Time))
}

func (l jobLine) Text() string {
	return written(l, strconv.Itoa(l.TourJob.Place), lines.WriteSpan(l.Work), strconv.Itoa(l.Due), lines.WriteList(l.Parts))
}

func (l noteLine) Text() string {
	return written(l, lines.WriteList(l.Ways), lines.WriteSpan(l.Took))
}

// written returns the text of a line that has some fields.
func written(l lines.Placed, fields ...string) string {
	return lineWords()[l.Place()] + " " + strings.Join(fields, " ")
}

// printed returns the lines of the book's text.
func (b book) printed() []lines.Line {
	all := []lines.Line{headLine{b.Bag, b.Kinds}}
	for _, name := range b.Places {
		all = append(all, placeLine(name))
	}
	for _, w := range b.Ways {
		all = append(all, wayLine(w))
	}
	for _, j := range b.Jobs {
		all = append(all, jobLine{j})
	}
	for _, n := range b.Notes {
		all = append(all, noteLine(n))
	}
	return all
}

// add adds to the book what a line says.
func (b *book) add(l lines.Placed) {
	switch l := l.(type) {
	case headLine:
		b.Bag, b.Kinds = l.bag, l.kinds
	case placeLine:
		b.Places = append(b.Places, string(l))
	case wayLine:
		b.Ways = append(b.Ways, api.TourWay(l))
	case jobLine:
		b.Jobs = append(b.Jobs, l.TourJob)
	case noteLine:
		b.Notes = append(b.Notes, api.TourNote(l))
	}
}

// anyLine reads a line of any kind. Whether a name is one, CheckBook tells.
func anyLine(r *lines.Reading) lines.Placed {
	switch r.OneOf(lineWords()...) {
	case placeWord:
		return placeLine(r.Word())
	case wayWord:
		return wayLine{A: r.Number(), B: r.Number(), Time: r.Span()}
	case jobWord:
		return jobLine{api.TourJob{Place: r.Number(), Work: r.Span(), Due: r.Number(), Parts: r.List()}}
	case noteWord:
		return noteLine{Ways: r.List(), Took: r.Span()}
	}
	return headLine{bag: r.Number(), kinds: r.Number()}
}
