package audit

import (
	"nosale/api"
	"nosale/build"
	"nosale/change"
	"nosale/evening"
	"nosale/sales"
	"nosale/stock"
	"nosale/strip"
	"nosale/tag"
	"nosale/tour"
	"nosale/wheels"
)

// The parts of a file, in their order.
const (
	wheelsPart = iota
	stripPart
	tagPart
	changePart
	buildPart
	salesPart
	eveningPart
	stockPart
	tourPart
	manyParts
)

// part is one of the parts of a file, as its chapter deals with it.
type part interface {
	// named returns the word of the part.
	named() string
	// bell returns the bell of the part.
	bell(b *api.AuditBook) api.Bell
	// text returns the text of the part, if it has no bell.
	text(b *api.AuditBook) string
	// read puts the part that a text tells of into a file; it returns the line that is wrong, and the bell.
	read(b *api.AuditBook, text string) (line int, l api.Bell)
}

// parts returns all parts of a file.
func parts() [manyParts]part {
	return [manyParts]part{
		wheelsPart:  chapter[api.WheelsBook]{"wheels", wheels.CheckBook, wheels.Print, wheels.Parse},
		stripPart:   chapter[api.StripBook]{"strip", strip.CheckBook, strip.Print, strip.Parse},
		tagPart:     chapter[api.TagHouse]{"tag", tag.CheckHouse, tag.Print, tag.Parse},
		changePart:  chapter[api.ChangeBook]{"change", change.CheckBook, change.Print, change.Parse},
		buildPart:   chapter[api.BuildBook]{"build", build.CheckBook, build.Print, build.Parse},
		salesPart:   chapter[api.SalesBook]{"sales", sales.CheckBook, sales.Print, sales.Parse},
		eveningPart: chapter[api.EveningBook]{"evening", evening.CheckBook, evening.Print, evening.Parse},
		stockPart:   chapter[api.StockBook]{"stock", stock.CheckBook, stock.Print, stock.Parse},
		tourPart:    chapter[api.TourBook]{"tour", tour.CheckBook, tour.Print, tour.Parse},
	}
}

// chapter is the part of a file that is a book of a type: its word, and how its chapter checks, prints and parses such books.
type chapter[B any] struct {
	word  string
	check func(book B) api.Bell
	print func(book B) (string, api.Bell)
	parse func(text string) (book B, line int, l api.Bell)
}

func (c chapter[B]) named() string { return c.word }

func (c chapter[B]) bell(b *api.AuditBook) api.Bell { return c.check(*find[B](b)) }

func (c chapter[B]) text(b *api.AuditBook) string {
	text, _ := c.print(*find[B](b))
	return text
}

func (c chapter[B]) read(b *api.AuditBook, text string) (line int, l api.Bell) {
	book, line, l := c.parse(text)
	*find[B](b) = book
	return line, l
}

// find returns the place of a file where its book of a type is.
func find[B any](b *api.AuditBook) *B {
	var book B
	var place any
	switch any(book).(type) {
	case api.WheelsBook:
		place = &b.Wheels
	case api.StripBook:
		place = &b.Strip
	case api.TagHouse:
		place = &b.House
	case api.ChangeBook:
		place = &b.Drawer
	case api.BuildBook:
		place = &b.Works
	case api.SalesBook:
		place = &b.Day
	case api.EveningBook:
		place = &b.Evening
	case api.StockBook:
		place = &b.Stock
	case api.TourBook:
		place = &b.Tour
	}
	return place.(*B)
}
