package strip

import (
	"strconv"
	"strings"

	"nosale/api"
	"nosale/lines"
)

type (
	headLine    [5]int // Last, First, Begin, Digits and Clerks
	articleLine api.StripArticle
	itemLine    api.StripItem
	countLine   api.StripCount
)

func (l headLine) Text() string {
	text := "strip"
	for _, n := range l {
		text += " " + strconv.Itoa(n)
	}
	return text
}

func (l articleLine) Text() string {
	return "article " + strconv.Itoa(l.Dept) + " " + strconv.Itoa(l.Price)
}

func (l itemLine) Text() string {
	if l.Torn {
		return "torn " + lines.WriteSpan(l.Many)
	}
	return strings.Join([]string{"entry", l.Number, l.Amount, l.Total, strconv.Itoa(l.Dept), strconv.Itoa(l.Clerk)}, " ")
}

func (l countLine) Text() string {
	text := kinds()[l.Kind].word
	if l.Kind != api.StripAll {
		text += " " + strconv.Itoa(l.A)
	}
	return text + " " + lines.WriteSpan(l.Many)
}

// written returns the lines of the book's text.
func (b book) written() []lines.Line {
	all := []lines.Line{headLine{b.Last, b.First, b.Begin, b.Digits, b.Clerks}}
	for _, a := range b.Articles {
		all = append(all, articleLine(a))
	}
	for _, e := range b.Items {
		all = append(all, itemLine(e))
	}
	for _, c := range b.Counts {
		all = append(all, countLine(c))
	}
	return all
}

// readBook reads a book that is not checked yet.
func readBook(text string) (book, error) {
	texts := lines.Split(text)
	if len(texts) == 0 {
		return book{}, lines.Wrong{}
	}
	var b book
	before := headPlace
	for i, t := range texts {
		l, ok := readLine(t)
		if !ok || !lines.Follows(placeOf(l), before, i) {
			return book{}, lines.Wrong{Line: i + 1}
		}
		before = placeOf(l)
		b.add(l)
	}
	return b, nil
}

// The places of lines, in their order; the first one is that of the first line alone.
const (
	headPlace = iota
	articlePlace
	itemPlace
	countPlace
)

// placeOf returns the place of a line.
func placeOf(l lines.Line) int {
	switch l.(type) {
	case headLine:
		return headPlace
	case articleLine:
		return articlePlace
	case itemLine:
		return itemPlace
	}
	return countPlace
}

// add adds to the book what a line says.
func (b *book) add(l lines.Line) {
	switch l := l.(type) {
	case headLine:
		b.Last, b.First, b.Begin, b.Digits, b.Clerks = l[0], l[1], l[2], l[3], l[4]
	case articleLine:
		b.Articles = append(b.Articles, api.StripArticle(l))
	case itemLine:
		b.Items = append(b.Items, api.StripItem(l))
	case countLine:
		b.Counts = append(b.Counts, api.StripCount(l))
	}
}

// readLine reads a line, and tells whether it has one of the forms.
func readLine(text string) (lines.Line, bool) {
	r := lines.Read(text)
	l := anyLine(r)
	if !r.Right() {
		return nil, false
	}
	return l, true
}

// anyLine reads a line of any kind. Whether the digits of an entry are some, CheckBook tells.
func anyLine(r *lines.Reading) lines.Line {
	word := r.Word()
	switch word {
	case "strip":
		return headLine{r.Number(), r.Number(), r.Number(), r.Number(), r.Number()}
	case "article":
		return articleLine{Dept: r.Number(), Price: r.Number()}
	case "entry":
		return itemLine{Number: r.Word(), Amount: r.Word(), Total: r.Word(), Dept: r.Number(), Clerk: r.Number()}
	case "torn":
		return itemLine{Torn: true, Many: r.Span()}
	}
	return anyCount(r, word)
}

// anyCount reads a count with a word.
func anyCount(r *lines.Reading, word string) lines.Line {
	for k, kind := range kinds() {
		if kind.word != word {
			continue
		}
		c := countLine{Kind: api.StripKind(k)}
		if c.Kind != api.StripAll {
			c.A = r.Number()
		}
		c.Many = r.Span()
		return c
	}
	r.Fail()
	return nil
}
