package stock

import (
	"slices"

	"nosale/api"
	"nosale/checks"
	"nosale/names"
	"nosale/spans"
)

// book is a book that can have a bell.
type book struct{ api.StockBook }

// lists returns the lists of a book in the order in which they are checked.
func (b book) lists() []checks.List[book] {
	return []checks.List[book]{
		{Long: book.longGoods, Bell: book.checkGood},
		{Long: book.longMoves, Bell: book.checkMove},
		{Long: book.longCounts, Bell: book.checkCount},
	}
}

// bell returns the first bell of the book.
func (b book) bell() api.Bell {
	if !spans.Within(b.Days, 1, api.MaxStockDays) || !spans.Within(b.Most, 0, api.MaxStockMost) {
		return api.Bound
	}
	return checks.First(b, b.lists()...)
}

func (b book) longGoods() (many int, right bool) {
	return len(b.Goods), spans.Within(len(b.Goods), 1, api.MaxStockGoods)
}

func (b book) longMoves() (many int, right bool) {
	return len(b.Moves), len(b.Moves) <= api.MaxStockMoves
}

func (b book) longCounts() (many int, right bool) {
	return len(b.Counts), len(b.Counts) <= api.MaxStockCounts
}

// checkGood returns the bell of a good.
func (b book) checkGood(i int) api.Bell {
	g := b.Goods[i]
	if l := names.Bell(i, func(i int) string { return b.Goods[i].Name }); l != api.Fine {
		return l
	}
	if !spans.Within(g.Cost, 0, api.MaxStockCost) || !spans.Within(g.Pack, 1, api.MaxStockPack) || !isMany(g.First) {
		return api.Bound
	}
	return api.Fine
}

// checkMove returns the bell of a move.
func (b book) checkMove(i int) api.Bell {
	m := b.Moves[i]
	if !spans.Within(int(m.Kind), int(api.StockCame), int(api.StockBack)) {
		return api.Bound
	}
	if !b.hasGood(m.Good) {
		return api.Missing
	}
	if !spans.Within(m.Day, 1, b.Days) {
		return api.Bound
	}
	if i > 0 && m.Day < b.Moves[i-1].Day {
		return api.Order
	}
	if !isMany(m.Many) {
		return api.Bound
	}
	return api.Fine
}

// checkCount returns the bell of a count.
func (b book) checkCount(i int) api.Bell {
	c := b.Counts[i]
	if !b.hasGood(c.Good) {
		return api.Missing
	}
	if !b.hasEnd(c.Day) || !spans.IsFrom(c.Many, 0, api.MaxStockSum) {
		return api.Bound
	}
	return api.Fine
}

// checkPast returns the bell of how many there were of each good at first, of how many each move says, and of notes, each of which is to be above the one before it.
func (b book) checkPast(first, many, lies []int) api.Bell {
	notes := b.notes()
	var places []int // of the lies, among all notes
	for _, move := range lies {
		places = append(places, slices.Index(notes, move))
	}
	return checks.InTurn(
		func() api.Bell { return checks.Each(first, len(b.Goods), api.MaxStockMany) },
		func() api.Bell { return checks.Each(many, len(b.Moves), api.MaxStockMany) },
		func() api.Bell { return checks.Rising(places, len(notes)) },
	)
}

// isMany tells whether a span is one of how many there can be at first, or can have come, been sold, and so on.
func isMany(s api.Span) bool {
	return spans.IsFrom(s, 0, api.MaxStockMany) && spans.Many(s) <= api.MaxStockWide
}

// hasGood tells whether a number is the index of a good.
func (b book) hasGood(good int) bool { return spans.Within(good, 0, len(b.Goods)-1) }

// hasMove tells whether a number is the index of a move.
func (b book) hasMove(move int) bool { return spans.Within(move, 0, len(b.Moves)-1) }

// hasNote tells whether a number is the index of a move of which there is a note.
func (b book) hasNote(move int) bool {
	return b.hasMove(move) && b.Moves[move].Kind == api.StockCame
}

// hasEnd tells whether a number is a day of the book, or 0.
func (b book) hasEnd(day int) bool { return spans.Within(day, 0, b.Days) }

// notes returns the moves of which there are notes, ascending.
func (b book) notes() []int {
	var list []int
	for i := range b.Moves {
		if b.hasNote(i) {
			list = append(list, i)
		}
	}
	return list
}
