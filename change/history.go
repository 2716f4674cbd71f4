package change

import (
	"iter"
	"math/bits"
	"slices"

	"nosale/api"
	"nosale/histories"
	"nosale/lists"
	"nosale/spans"
)

// checked is a book without a bell, and the change that is known of it.
type checked struct {
	book
	known map[bill]payout
}

// open returns a book that is checked, or its bell.
func open(b api.ChangeBook) (checked, api.Bell) {
	if l := CheckBook(b); l != api.Fine {
		return checked{}, l
	}
	return newChecked(book{b}), api.Fine
}

func newChecked(b book) checked { return checked{b, map[bill]payout{}} }

// openCoins returns a book that is checked, if coins of it have no bell, or the bell.
func openCoins(b api.ChangeBook, list []int) (checked, api.Bell) {
	c, l := open(b)
	if l == api.Fine {
		l = c.checkCoins(list, api.MaxChangeCount)
	}
	return c, l
}

// openPlay returns a book that is checked, if coins and an order of all sales have no bell, or the bell.
func openPlay(b api.ChangeBook, drawer, order []int) (checked, api.Bell) {
	c, l := openCoins(b, drawer)
	if l == api.Fine {
		l = c.checkOrder(order)
	}
	return c, l
}

// copyBook returns a book that shares no memory with b.
func copyBook(b api.ChangeBook) api.ChangeBook {
	b.Kinds = slices.Clone(b.Kinds)
	b.Drawer = slices.Clone(b.Drawer)
	b.Sales = slices.Clone(b.Sales)
	for i, s := range b.Sales {
		b.Sales[i].Paid = slices.Clone(s.Paid)
	}
	b.Firsts = slices.Clone(b.Firsts)
	b.Counts = slices.Clone(b.Counts)
	return b
}

// ifPossible returns a book if it has no bell, and a history.
func ifPossible(b api.ChangeBook) (api.ChangeBook, api.Bell) {
	c, l := open(b)
	return histories.IfAny(b, l, c.histories)
}

// order is the sales in the order in which they come; behind the last one there are zeros.
type order [api.MaxChangeSales]int

// orderOf returns the order of a list that was checked.
func orderOf(list []int) order {
	var o order
	copy(o[:], list)
	return o
}

// orders yields all orders with which all firsts are so, from the least list on.
func (b book) orders() iter.Seq[order] {
	return func(yield func(order) bool) {
		// fill goes on behind so many sales, and tells whether more is wanted.
		var fill func(o order, many int) bool
		fill = func(o order, many int) bool {
			if many == len(b.Sales) {
				return yield(o)
			}
			for sale := range len(b.Sales) {
				if b.canFollow(sale, o[:many]) {
					o[many] = sale
					if !fill(o, many+1) {
						return false
					}
				}
			}
			return true
		}
		fill(order{}, 0)
	}
}

// canFollow tells whether a sale can be the next one behind those that came.
func (b book) canFollow(sale int, came []int) bool {
	for _, f := range b.Firsts {
		if f.After == sale && !slices.Contains(came, f.Before) {
			return false
		}
	}
	return !slices.Contains(came, sale)
}

// history is the coins of the drawer at first, and the order of the sales; and what becomes of them: the sales that are refused, which have a bit each, and the coins in the end.
type history struct {
	first   coins
	order   order
	refused int
	last    coins
}

// give returns the change that is given for a bill.
func (c checked) give(x bill) payout {
	paid, ok := c.known[x]
	if !ok {
		paid = c.fewest(x)
		c.known[x] = paid
	}
	return paid
}

// play returns what becomes of a drawer if the sales come in an order.
func (c checked) play(first coins, o order) history {
	h := history{first: first, order: o, last: first}
	for _, sale := range o[:len(c.Sales)] {
		s := c.Sales[sale]
		paid := coinsOf(s.Paid)
		there := h.last.plus(paid)
		out := c.give(bill{there, c.amount(paid) - s.Price})
		if out.found {
			h.last = there.minus(out.change)
		} else {
			h.refused |= 1 << sale
		}
	}
	return h
}

// isRefused tells whether a sale is refused.
func (h history) isRefused(sale int) bool { return h.refused>>sale&1 == 1 }

// manyRefused returns how many sales are refused.
func (h history) manyRefused() int { return bits.OnesCount(uint(h.refused)) }

// plays yields all that agrees with what was seen, whatever is counted.
func (c checked) plays() iter.Seq[history] {
	return func(yield func(history) bool) {
		for first := range c.drawers() {
			for o := range c.orders() {
				h := c.play(first, o)
				if c.isSeen(h) && !yield(h) {
					return
				}
			}
		}
	}
}

// isSeen tells whether each sale goes, or is refused, as was seen.
func (c checked) isSeen(h history) bool {
	for i, s := range c.Sales {
		if s.Seen != api.Open && h.isRefused(i) != (s.Seen == api.No) {
			return false
		}
	}
	return true
}

// isCounted tells whether the coins in the end are within the counts of a set, which has a bit for each.
func (c checked) isCounted(h history, set int) bool {
	for i, count := range c.Counts {
		if set>>i&1 == 1 && !spans.Has(count.Many, h.last[count.Kind]) {
			return false
		}
	}
	return true
}

// histories yields all histories of the book.
func (c checked) histories() iter.Seq[history] {
	return c.alone(1<<len(c.Counts) - 1)
}

// alone yields all histories of the book with the counts of a set alone.
func (c checked) alone(set int) iter.Seq[history] {
	return func(yield func(history) bool) {
		for h := range c.plays() {
			if c.isCounted(h, set) && !yield(h) {
				return
			}
		}
	}
}

// isHistory tells whether a drawer and an order are a history.
func (c checked) isHistory(first coins, o order) bool {
	for h := range c.histories() {
		if h.first == first && h.order == o {
			return true
		}
	}
	return false
}

// openPasts returns a book that is checked, and all its histories, or the bell; Odds if there is none.
func openPasts(b api.ChangeBook) (checked, []history, api.Bell) {
	c, l := open(b)
	if l != api.Fine {
		return checked{}, nil, l
	}
	all := slices.Collect(c.histories())
	if len(all) == 0 {
		return checked{}, nil, api.Odds
	}
	return c, all, api.Fine
}

// coinsIn returns how many coins of a kind there can be, of the coins that are told of histories.
func coinsIn(b api.ChangeBook, kind int, tell func(h history) coins) ([]int, api.Bell) {
	c, l := open(b)
	if l != api.Fine {
		return nil, l
	}
	if !c.hasKind(kind) {
		return nil, api.Missing
	}
	return histories.Numbers(c.histories(), func(h history) int { return tell(h)[kind] })
}

// clash returns the fewest counts that alone have no history, and of several such lists the least one, if there are such counts.
func (c checked) clash() (counts []int, found bool) {
	return lists.LeastSet(len(c.Counts), func(set int) bool { return !histories.Any(c.alone(set)) })
}
