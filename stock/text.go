package stock

import (
	"strconv"
	"strings"

	"nosale/api"
	"nosale/lines"
)

// The words that lines begin with, in the order in which lines stand; the first one is that of the first line alone.
const (
	stockWord = iota
	goodWord
	moveWord
	countWord
)

// lineWords returns these words.
func lineWords() []string {
	return []string{stockWord: "stock", goodWord: "good", moveWord: "move", countWord: "count"}
}

// kindWords returns the words of the kinds of moves.
func kindWords() []string {
	var words []string
	for _, k := range kinds() {
		words = append(words, k.word)
	}
	return words
}

type (
	headLine  struct{ days, most int }
	goodLine  api.StockGood
	moveLine  api.StockMove
	countLine api.StockCount
)

func (l headLine) Place() int  { return stockWord }
func (l goodLine) Place() int  { return goodWord }
func (l moveLine) Place() int  { return moveWord }
func (l countLine) Place() int { return countWord }

func (l headLine) Text() string {
	return written(l, strconv.Itoa(l.days), strconv.Itoa(l.most))
}

func (l goodLine) Text() string {
	return written(l, l.Name, strconv.Itoa(l.Cost), strconv.Itoa(l.Pack), lines.WriteSpan(l.First))
}

func (l moveLine) Text() string {
	return written(l, kindWords()[l.Kind], strconv.Itoa(l.Good), strconv.Itoa(l.Day), lines.WriteSpan(l.Many))
}

func (l countLine) Text() string {
	return written(l, strconv.Itoa(l.Good), strconv.Itoa(l.Day), lines.WriteSpan(l.Many))
}

// written returns the text of a line that has some fields.
func written(l lines.Placed, fields ...string) string {
	return lineWords()[l.Place()] + " " + strings.Join(fields, " ")
}

// printed returns the lines of the book's text.
func (b book) printed() []lines.Line {
	all := []lines.Line{headLine{b.Days, b.Most}}
	for _, g := range b.Goods {
		all = append(all, goodLine(g))
	}
	for _, m := range b.Moves {
		all = append(all, moveLine(m))
	}
	for _, c := range b.Counts {
		all = append(all, countLine(c))
	}
	return all
}

// add adds to the book what a line says.
func (b *book) add(l lines.Placed) {
	switch l := l.(type) {
	case headLine:
		b.Days, b.Most = l.days, l.most
	case goodLine:
		b.Goods = append(b.Goods, api.StockGood(l))
	case moveLine:
		b.Moves = append(b.Moves, api.StockMove(l))
	case countLine:
		b.Counts = append(b.Counts, api.StockCount(l))
	}
}

// anyLine reads a line of any kind. Whether a name is one, CheckBook tells.
func anyLine(r *lines.Reading) lines.Placed {
	switch r.OneOf(lineWords()...) {
	case goodWord:
		return goodLine{Name: r.Word(), Cost: r.Number(), Pack: r.Number(), First: r.Span()}
	case moveWord:
		return moveLine{Kind: api.StockKind(r.OneOf(kindWords()...)), Good: r.Number(), Day: r.Number(), Many: r.Span()}
	case countWord:
		return countLine{Good: r.Number(), Day: r.Number(), Many: r.Span()}
	}
	return headLine{days: r.Number(), most: r.Number()}
}
