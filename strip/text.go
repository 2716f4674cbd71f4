package strip

import (
	"strconv"
	"strings"

	"nosale/api"
	"nosale/lines"
)

// textLine is a line of the text of a book.
type textLine interface {
	// text returns the line without its line feed.
	text() string
}

type (
	headLine    [5]int // Last, First, Begin, Digits and Clerks
	articleLine api.StripArticle
	itemLine    api.StripItem
	countLine   api.StripCount
)

func (l headLine) text() string {
	text := "strip"
	for _, n := range l {
		text += " " + strconv.Itoa(n)
	}
	return text
}

func (l articleLine) text() string {
	return "article " + strconv.Itoa(l.Dept) + " " + strconv.Itoa(l.Price)
}

func (l itemLine) text() string {
	if l.Torn {
		return "torn " + lines.WriteSpan(l.Many)
	}
	return strings.Join([]string{"entry", l.Number, l.Amount, l.Total, strconv.Itoa(l.Dept), strconv.Itoa(l.Clerk)}, " ")
}

func (l countLine) text() string {
	text := kinds()[l.Kind].word
	if l.Kind != api.StripAll {
		text += " " + strconv.Itoa(l.A)
	}
	return text + " " + lines.WriteSpan(l.Many)
}

// written returns the lines of the book's text.
func (b book) written() []textLine {
	all := []textLine{headLine{b.Last, b.First, b.Begin, b.Digits, b.Clerks}}
	for _, a := range b.Articles {
		all = append(all, articleLine(a))
	}
	for _, e := range b.Items {
		all = append(all, itemLine(e))
	}
	for _, c := range b.Counts {
		all = append(all, countLine(c))
	}
	return all
}

// text returns the book's text.
func (b book) text() string {
	var text strings.Builder
	for _, l := range b.written() {
		text.WriteString(l.text() + "\n")
	}
	return text.String()
}

// wrongLine is the error of a text of which a line is wrong; it is 0 if there is none.
type wrongLine struct{ number int }

func (w wrongLine) Error() string { return "line " + strconv.Itoa(w.number) + " is wrong" }

// readBook reads a book that is not checked yet.
func readBook(text string) (book, error) {
	texts := lines.Split(text)
	if len(texts) == 0 {
		return book{}, wrongLine{}
	}
	var b book
	before := headPlace
	for i, t := range texts {
		l, ok := readLine(t)
		if !ok || !follows(l, i, before) {
			return book{}, wrongLine{i + 1}
		}
		before = placeOf(l)
		b.add(l)
	}
	return b, nil
}

// The places of lines, in their order.
const (
	headPlace = iota
	articlePlace
	itemPlace
	countPlace
)

// placeOf returns the place of a line.
func placeOf(l textLine) int {
	switch l.(type) {
	case headLine:
		return headPlace
	case articleLine:
		return articlePlace
	case itemLine:
		return itemPlace
	}
	return countPlace
}

// follows tells whether a line can stand behind so many others, the last of which has a place.
func follows(l textLine, others, before int) bool {
	place := placeOf(l)
	return (place == headPlace) == (others == 0) && place >= before
}

// add adds to the book what a line says.
func (b *book) add(l textLine) {
	switch l := l.(type) {
	case headLine:
		b.Last, b.First, b.Begin, b.Digits, b.Clerks = l[0], l[1], l[2], l[3], l[4]
	case articleLine:
		b.Articles = append(b.Articles, api.StripArticle(l))
	case itemLine:
		b.Items = append(b.Items, api.StripItem(l))
	case countLine:
		b.Counts = append(b.Counts, api.StripCount(l))
	}
}

// reading is the fields of a line that are still to be read; it is wrong once one of them does not have its form.
type reading struct {
	fields []string
	wrong  bool
}

// readLine reads a line, and tells whether it has one of the forms.
func readLine(text string) (textLine, bool) {
	r := reading{fields: lines.Fields(text)}
	l := r.line()
	if r.wrong || len(r.fields) > 0 {
		return nil, false
	}
	return l, true
}

// line reads a line. Whether the digits of an entry are some, CheckBook tells.
func (r *reading) line() textLine {
	word := r.word()
	switch word {
	case "strip":
		return headLine{r.number(), r.number(), r.number(), r.number(), r.number()}
	case "article":
		return articleLine{Dept: r.number(), Price: r.number()}
	case "entry":
		return itemLine{Number: r.word(), Amount: r.word(), Total: r.word(), Dept: r.number(), Clerk: r.number()}
	case "torn":
		return itemLine{Torn: true, Many: r.span()}
	}
	return r.count(word)
}

// count reads a count with a word.
func (r *reading) count(word string) textLine {
	for k, kind := range kinds() {
		if kind.word != word {
			continue
		}
		c := countLine{Kind: api.StripKind(k)}
		if c.Kind != api.StripAll {
			c.A = r.number()
		}
		c.Many = r.span()
		return c
	}
	r.wrong = true
	return nil
}

// word reads a field of any bytes.
func (r *reading) word() string {
	if len(r.fields) == 0 || r.fields[0] == "" {
		r.wrong = true
		return ""
	}
	field := r.fields[0]
	r.fields = r.fields[1:]
	return field
}

// number reads a field that is a number.
func (r *reading) number() int {
	n, ok := lines.Number(r.word())
	r.wrong = r.wrong || !ok
	return n
}

// span reads a field that is a span.
func (r *reading) span() api.Span {
	s, ok := lines.Span(r.word())
	r.wrong = r.wrong || !ok
	return s
}
