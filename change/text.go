package change

import (
	"strconv"

	"nosale/api"
	"nosale/lines"
)

// placed is a line of the text of a book, which has its place among the kinds of lines.
type placed interface {
	lines.Line
	place() int
}

// The places of lines, in their order; the first one is that of the first line alone.
const (
	kindsPlace = iota
	drawerPlace
	salePlace
	firstPlace
	countPlace
)

type (
	kindsLine  []int
	drawerLine api.Span
	saleLine   api.ChangeSale
	firstLine  api.ChangeFirst
	countLine  api.ChangeCount
)

func (l kindsLine) place() int  { return kindsPlace }
func (l drawerLine) place() int { return drawerPlace }
func (l saleLine) place() int   { return salePlace }
func (l firstLine) place() int  { return firstPlace }
func (l countLine) place() int  { return countPlace }

func (l kindsLine) Text() string { return "change " + lines.WriteList(l) }

func (l drawerLine) Text() string { return "drawer " + lines.WriteSpan(api.Span(l)) }

func (l saleLine) Text() string {
	return "sale " + strconv.Itoa(l.Price) + " " + lines.WriteList(l.Paid) + " " + wordFor(l.Seen)
}

func (l firstLine) Text() string {
	return "first " + strconv.Itoa(l.Before) + " " + strconv.Itoa(l.After)
}

func (l countLine) Text() string {
	return "count " + strconv.Itoa(l.Kind) + " " + lines.WriteSpan(l.Many)
}

// wordFor returns the word for what was seen of a sale.
func wordFor(seen api.Sure) string {
	switch seen {
	case api.Yes:
		return "went"
	case api.No:
		return "refused"
	}
	return "open"
}

// written returns the lines of the book's text.
func (b book) written() []lines.Line {
	all := []lines.Line{kindsLine(b.Kinds)}
	for _, s := range b.Drawer {
		all = append(all, drawerLine(s))
	}
	for _, s := range b.Sales {
		all = append(all, saleLine(s))
	}
	for _, f := range b.Firsts {
		all = append(all, firstLine(f))
	}
	for _, c := range b.Counts {
		all = append(all, countLine(c))
	}
	return all
}

// wrongLine is what reading panics with at a line that does not have its form, or its place.
type wrongLine struct{}

// need panics if a line is not as it is to be.
func need(right bool) {
	if !right {
		panic(wrongLine{})
	}
}

// readBook reads a book that is not checked yet; if it is not right a line is wrong, 0 if there is none.
func readBook(text string) (b book, line int, right bool) {
	at := 0
	defer func() {
		if _, wrong := recover().(wrongLine); wrong {
			b, line, right = book{}, at, false
		}
	}()
	texts := lines.Split(text)
	need(len(texts) > 0)
	before := kindsPlace
	for others, text := range texts {
		at = others + 1
		l := readLine(text)
		need(lines.Follows(l.place(), before, others))
		before = l.place()
		b.add(l)
	}
	return b, 0, true
}

// add adds to the book what a line says.
func (b *book) add(l placed) {
	switch l := l.(type) {
	case kindsLine:
		b.Kinds = l
	case drawerLine:
		b.Drawer = append(b.Drawer, api.Span(l))
	case saleLine:
		b.Sales = append(b.Sales, api.ChangeSale(l))
	case firstLine:
		b.Firsts = append(b.Firsts, api.ChangeFirst(l))
	case countLine:
		b.Counts = append(b.Counts, api.ChangeCount(l))
	}
}

// readLine reads a line; it panics if the line has none of the forms.
func readLine(text string) placed {
	r := lines.Read(text)
	l := anyLine(r)
	need(r.Right())
	return l
}

// anyLine reads a line of any kind.
func anyLine(r *lines.Reading) placed {
	switch r.Word() {
	case "change":
		return kindsLine(r.List())
	case "drawer":
		return drawerLine(r.Span())
	case "sale":
		return saleLine{Price: r.Number(), Paid: r.List(), Seen: readSeen(r.Word())}
	case "first":
		return firstLine{Before: r.Number(), After: r.Number()}
	case "count":
		return countLine{Kind: r.Number(), Many: r.Span()}
	}
	panic(wrongLine{})
}

// readSeen returns what was seen of a sale; it panics if there is no such word.
func readSeen(word string) api.Sure {
	for _, seen := range []api.Sure{api.Open, api.Yes, api.No} {
		if wordFor(seen) == word {
			return seen
		}
	}
	panic(wrongLine{})
}
