package strip

import (
	"strconv"
	"strings"

	"nosale/api"
	"nosale/lines"
)

// The places of lines, in their order; the first one is that of the first line alone.
const (
	headPlace = iota
	articlePlace
	itemPlace
	countPlace
)

type (
	headLine    [5]int // Last, First, Begin, Digits and Clerks
	articleLine api.StripArticle
	itemLine    api.StripItem
	countLine   api.StripCount
)

func (l headLine) Place() int    { return headPlace }
func (l articleLine) Place() int { return articlePlace }
func (l itemLine) Place() int    { return itemPlace }
func (l countLine) Place() int   { return countPlace }

func (l headLine) Text() string {
	text := "strip"
	for _, n := range l {
		text += " " + strconv.Itoa(n)
	}
	return text
}

func (l articleLine) Text() string {
	return "article " + strconv.Itoa(l.Dept) + " " + strconv.Itoa(l.Price)
}

func (l itemLine) Text() string {
	if l.Torn {
		return "torn " + lines.WriteSpan(l.Many)
	}
	return strings.Join([]string{"entry", l.Number, l.Amount, l.Total, strconv.Itoa(l.Dept), strconv.Itoa(l.Clerk)}, " ")
}

func (l countLine) Text() string {
	text := kinds()[l.Kind].word
	if l.Kind != api.StripAll {
		text += " " + strconv.Itoa(l.A)
	}
	return text + " " + lines.WriteSpan(l.Many)
}

// written returns the lines of the book's text.
func (b book) written() []lines.Line {
	all := []lines.Line{headLine{b.Last, b.First, b.Begin, b.Digits, b.Clerks}}
	for _, a := range b.Articles {
		all = append(all, articleLine(a))
	}
	for _, e := range b.Items {
		all = append(all, itemLine(e))
	}
	for _, c := range b.Counts {
		all = append(all, countLine(c))
	}
	return all
}

// add adds to the book what a line says.
func (b *book) add(l lines.Placed) {
	switch l := l.(type) {
	case headLine:
		b.Last, b.First, b.Begin, b.Digits, b.Clerks = l[0], l[1], l[2], l[3], l[4]
	case articleLine:
		b.Articles = append(b.Articles, api.StripArticle(l))
	case itemLine:
		b.Items = append(b.Items, api.StripItem(l))
	case countLine:
		b.Counts = append(b.Counts, api.StripCount(l))
	}
}

// anyLine reads a line of any kind. Whether the digits of an entry are some, CheckBook tells.
func anyLine(r *lines.Reading) lines.Placed {
	word := r.Word()
	switch word {
	case "strip":
		return headLine{r.Number(), r.Number(), r.Number(), r.Number(), r.Number()}
	case "article":
		return articleLine{Dept: r.Number(), Price: r.Number()}
	case "entry":
		return itemLine{Number: r.Word(), Amount: r.Word(), Total: r.Word(), Dept: r.Number(), Clerk: r.Number()}
	case "torn":
		return itemLine{Torn: true, Many: r.Span()}
	}
	return anyCount(r, word)
}

// anyCount reads a count with a word.
func anyCount(r *lines.Reading, word string) lines.Placed {
	for k, kind := range kinds() {
		if kind.word != word {
			continue
		}
		c := countLine{Kind: api.StripKind(k)}
		if c.Kind != api.StripAll {
			c.A = r.Number()
		}
		c.Many = r.Span()
		return c
	}
	r.Fail()
	return nil
}
