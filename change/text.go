package change

import (
	"strconv"

	"nosale/api"
	"nosale/lines"
)

// The places of lines, in their order; the first one is that of the first line alone.
const (
	kindsPlace = iota
	drawerPlace
	salePlace
	firstPlace
	countPlace
)

type (
	kindsLine  []int
	drawerLine api.Span
	saleLine   api.ChangeSale
	firstLine  api.ChangeFirst
	countLine  api.ChangeCount
)

func (l kindsLine) Place() int  { return kindsPlace }
func (l drawerLine) Place() int { return drawerPlace }
func (l saleLine) Place() int   { return salePlace }
func (l firstLine) Place() int  { return firstPlace }
func (l countLine) Place() int  { return countPlace }

func (l kindsLine) Text() string { return "change " + lines.WriteList(l) }

func (l drawerLine) Text() string { return "drawer " + lines.WriteSpan(api.Span(l)) }

func (l saleLine) Text() string {
	return "sale " + strconv.Itoa(l.Price) + " " + lines.WriteList(l.Paid) + " " + wordFor(l.Seen)
}

func (l firstLine) Text() string {
	return "first " + strconv.Itoa(l.Before) + " " + strconv.Itoa(l.After)
}

func (l countLine) Text() string {
	return "count " + strconv.Itoa(l.Kind) + " " + lines.WriteSpan(l.Many)
}

// wordFor returns the word for what was seen of a sale.
func wordFor(seen api.Sure) string {
	switch seen {
	case api.Yes:
		return "went"
	case api.No:
		return "refused"
	}
	return "open"
}

// written returns the lines of the book's text.
func (b book) written() []lines.Line {
	all := []lines.Line{kindsLine(b.Kinds)}
	for _, s := range b.Drawer {
		all = append(all, drawerLine(s))
	}
	for _, s := range b.Sales {
		all = append(all, saleLine(s))
	}
	for _, f := range b.Firsts {
		all = append(all, firstLine(f))
	}
	for _, c := range b.Counts {
		all = append(all, countLine(c))
	}
	return all
}

// add adds to the book what a line says.
func (b *book) add(l lines.Placed) {
	switch l := l.(type) {
	case kindsLine:
		b.Kinds = l
	case drawerLine:
		b.Drawer = append(b.Drawer, api.Span(l))
	case saleLine:
		b.Sales = append(b.Sales, api.ChangeSale(l))
	case firstLine:
		b.Firsts = append(b.Firsts, api.ChangeFirst(l))
	case countLine:
		b.Counts = append(b.Counts, api.ChangeCount(l))
	}
}

// anyLine reads a line of any kind.
func anyLine(r *lines.Reading) lines.Placed {
	switch r.Word() {
	case "change":
		return kindsLine(r.List())
	case "drawer":
		return drawerLine(r.Span())
	case "sale":
		return saleLine{Price: r.Number(), Paid: r.List(), Seen: readSeen(r)}
	case "first":
		return firstLine{Before: r.Number(), After: r.Number()}
	case "count":
		return countLine{Kind: r.Number(), Many: r.Span()}
	}
	r.Fail()
	return nil
}

// readSeen reads what was seen of a sale.
func readSeen(r *lines.Reading) api.Sure {
	word := r.Word()
	for _, seen := range []api.Sure{api.Open, api.Yes, api.No} {
		if wordFor(seen) == word {
			return seen
		}
	}
	r.Fail()
	return api.Open
}
