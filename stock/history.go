package stock

import (
	"iter"
	"math/bits"
	"slices"

	"nosale/api"
	"nosale/lists"
	"nosale/spans"
)

// stocks is how many there are of each good; behind the last good there are zeros.
type stocks [api.MaxStockGoods]int

// history is what happened: how many there were of each good at first, how many each move says (behind the last move there are zeros), and the set of the notes that are false, which has a bit for each move.
type history struct {
	first stocks
	many  [api.MaxStockMoves]int
	lies  int
}

// historyOf returns what happened, of lists that were checked.
func historyOf(first, many, lies []int) history {
	var h history
	copy(h.first[:], first)
	copy(h.many[:], many)
	for _, move := range lies {
		h.lies |= 1 << move
	}
	return h
}

// isFalse tells whether the note of a move is false.
func (h history) isFalse(move int) bool { return h.lies>>move&1 == 1 }

// really returns how many really came, were sold, and so on, by a move.
func (h history) really(move int) int {
	if h.isFalse(move) {
		return 0
	}
	return h.many[move]
}

// checked is a book without a bell, and all sets of notes that can be false, however many there are.
type checked struct {
	book
	lies []int
}

// open returns a book that is checked, or the bell.
func open(b api.StockBook) (checked, api.Bell) {
	if l := CheckBook(b); l != api.Fine {
		return checked{}, l
	}
	o := book{b}
	return checked{o, o.allLies()}, api.Fine
}

// openGood returns a book that is checked, if it has a good, or the bell.
func openGood(b api.StockBook, good int) (checked, api.Bell) {
	c, l := open(b)
	if l == api.Fine && !c.hasGood(good) {
		l = api.Missing
	}
	return c, l
}

// openMove returns a book that is checked, if it has a move, or the bell.
func openMove(b api.StockBook, move int) (checked, api.Bell) {
	c, l := open(b)
	if l == api.Fine && !c.hasMove(move) {
		l = api.Missing
	}
	return c, l
}

// openPast returns a book that is checked, and what happened, if that has no bell, or the bell.
func openPast(b api.StockBook, first, many, lies []int) (checked, history, api.Bell) {
	c, l := open(b)
	if l == api.Fine {
		l = c.checkPast(first, many, lies)
	}
	if l != api.Fine {
		return checked{}, history{}, l
	}
	return c, historyOf(first, many, lies), api.Fine
}

// allLies returns all sets of notes, with a bit for each move.
func (b book) allLies() []int {
	var sets []int
sets:
	for set := range 1 << len(b.Moves) {
		for _, move := range lists.OfSet(set) {
			if !b.hasNote(move) {
				continue sets
			}
		}
		sets = append(sets, set)
	}
	return sets
}

// after returns the stocks behind a move, of those before it.
func (b book) after(s stocks, h history, move int) stocks {
	m := b.Moves[move]
	s[m.Good] = kinds()[m.Kind].becomes(s[m.Good], h.really(move))
	return s
}

// stocksAt returns the stocks at the end of a day.
func (b book) stocksAt(h history, day int) stocks {
	s := h.first
	for move, m := range b.Moves {
		if m.Day <= day {
			s = b.after(s, h, move)
		}
	}
	return s
}

// low returns the least stock that each good has at the end of any day.
func (b book) low(h history) stocks {
	low := h.first
	for day := range b.Days + 1 {
		for good, n := range b.stocksAt(h, day) {
			low[good] = min(low[good], n)
		}
	}
	return low
}

// firsts returns all stocks that there can have been at first.
func (b book) firsts() []stocks {
	var all []stocks
	for list := range spans.Filled(len(b.Goods), func(good int) api.Span { return b.Goods[good].First }) {
		var s stocks
		copy(s[:], list)
		all = append(all, s)
	}
	return all
}

// settled returns the days from the last one of so many moves on, to the one before the next move; there is none of them between moves of one day.
func (b book) settled(moves int) api.Span {
	days := api.Span{Low: 0, High: b.Days}
	if moves > 0 {
		days.Low = b.Moves[moves-1].Day
	}
	if moves < len(b.Moves) {
		days.High = b.Moves[moves].Day - 1
	}
	return days
}

// isRight tells whether stocks can be those at the end of each of some days.
func (b book) isRight(s stocks, days api.Span) bool {
	if days.Low > days.High {
		return true
	}
	for _, count := range b.Counts {
		if spans.Has(days, count.Day) && !spans.Has(count.Many, s[count.Good]) {
			return false
		}
	}
	return slices.Min(s[:]) >= 0
}

// told yields all that can have happened if the notes of a set are false, and no others.
func (b book) told(lies int) iter.Seq[history] {
	return func(yield func(history) bool) {
		// fill goes on behind so many moves, with the stocks that there are then, and tells whether more is wanted.
		var fill func(h history, s stocks, moves int) bool
		fill = func(h history, s stocks, moves int) bool {
			if !b.isRight(s, b.settled(moves)) {
				return true
			}
			if moves == len(b.Moves) {
				return yield(h)
			}
			can := b.Moves[moves].Many
			for n := can.Low; n <= can.High; n++ {
				h.many[moves] = n
				if !fill(h, b.after(s, h, moves), moves+1) {
					return false
				}
			}
			return true
		}
		for _, first := range b.firsts() {
			if !fill(history{first: first, lies: lies}, first, 0) {
				return
			}
		}
	}
}

// canLie tells whether no more notes are false than can be.
func (b book) canLie(lies int) bool { return bits.OnesCount(uint(lies)) <= b.Most }

// histories yields all histories of the book.
func (c checked) histories() iter.Seq[history] {
	return func(yield func(history) bool) {
		for _, lies := range c.lies {
			if !c.canLie(lies) {
				continue
			}
			for h := range c.told(lies) {
				if !yield(h) {
					return
				}
			}
		}
	}
}

// isHistory tells whether what happened is a history.
func (c checked) isHistory(asked history) bool {
	if !c.canLie(asked.lies) {
		return false
	}
	for h := range c.told(asked.lies) {
		if h.first == asked.first && h.many == asked.many {
			return true
		}
	}
	return false
}
