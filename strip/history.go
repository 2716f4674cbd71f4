package strip

import (
	"iter"
	"slices"

	"nosale/api"
	"nosale/histories"
	"nosale/spans"
)

// checked is a book without a bell.
type checked struct {
	book
	top   int // totals are printed modulo this
	known []thing
	sales []api.StripSale
	adds  map[api.StripSale]tally
}

// open returns a book that is checked, or its bell.
func open(b api.StripBook) (checked, api.Bell) {
	if l := CheckBook(b); l != api.Fine {
		return checked{}, l
	}
	return newChecked(book{b}), api.Fine
}

// openEntry returns a book that is checked, if an item is the index of an entry of it, or the bell.
func openEntry(b api.StripBook, item int) (checked, api.Bell) {
	c, l := open(b)
	if l == api.Fine && !c.isEntry(item) {
		return checked{}, api.Missing
	}
	return c, l
}

func newChecked(b book) checked {
	c := checked{book: b, top: b.modulus(), known: b.things(), adds: map[api.StripSale]tally{}}
	for a := range len(b.Articles) {
		for k := range b.Clerks {
			s := api.StripSale{Article: a, Clerk: k}
			c.sales = append(c.sales, s)
			c.adds[s] = b.tallyOf(s)
		}
	}
	return c
}

// copyBook returns a book that shares no memory with b.
func copyBook(b api.StripBook) api.StripBook {
	b.Articles = slices.Clone(b.Articles)
	b.Items = slices.Clone(b.Items)
	b.Counts = slices.Clone(b.Counts)
	return b
}

// place returns the place of a thing in tallies.
func (c checked) place(t thing) int { return slices.Index(c.known, t) }

// maxLines is how many lines the strip of a book can have.
const maxLines = api.MaxStripEntries + api.MaxStripMissing

// history is how many lines are missing at each torn item, the line of each entry, the sales of all lines, the total behind them, and what is counted.
type history struct {
	many    [api.MaxStripItems]int
	at      [api.MaxStripItems]int
	sold    [maxLines]api.StripSale
	lines   int
	total   int
	counted tally
}

// blank returns the history of a strip without a line.
func (c checked) blank() history { return history{total: c.Begin} }

// sell returns a history with one more line.
func (c checked) sell(h history, s api.StripSale) history {
	h.sold[h.lines] = s
	h.lines++
	h.total = c.totalAfter(h.total, s)
	h.counted = h.counted.plus(c.adds[s])
	return h
}

// totalAfter returns the total behind a sale.
func (c checked) totalAfter(total int, s api.StripSale) int {
	return (total + c.Articles[s.Article].Price) % c.top
}

// number returns the number of a line.
func (c checked) number(line int) int { return (c.First-1+line)%c.Last + 1 }

// play returns number and total of each line.
func (c checked) play(sold []api.StripSale) []api.StripLine {
	var lines []api.StripLine
	total := c.Begin
	for i, s := range sold {
		total = c.totalAfter(total, s)
		lines = append(lines, api.StripLine{Number: c.number(i), Total: total})
	}
	return lines
}

// strips yields all that agree with the items, whatever the counts say.
func (c checked) strips() iter.Seq[history] {
	return func(yield func(history) bool) {
		// fill goes on with an item, before which so many lines are still missing, and tells whether more is wanted.
		var fill func(h history, item, missing int) bool
		fill = func(h history, item, missing int) bool {
			if missing > 0 {
				for _, s := range c.sales {
					if !fill(c.sell(h, s), item, missing-1) {
						return false
					}
				}
				return true
			}
			if item == len(c.Items) {
				return yield(h)
			}
			e := c.Items[item]
			if e.Torn {
				for n := e.Many.Low; n <= e.Many.High; n++ {
					h.many[item] = n
					if !fill(h, item+1, n) {
						return false
					}
				}
				return true
			}
			h.at[item] = h.lines
			for _, s := range c.sales {
				next := c.sell(h, s)
				if c.agrees(next, e) && !fill(next, item+1, 0) {
					return false
				}
			}
			return true
		}
		fill(c.blank(), 0, 0)
	}
}

// histories yields all histories of the book.
func (c checked) histories() iter.Seq[history] {
	return func(yield func(history) bool) {
		for h := range c.strips() {
			if c.fulfils(h.counted, c.allCounts()) && !yield(h) {
				return
			}
		}
	}
}

// isHistory tells whether so many missing lines, and the sales of all lines, are a history.
func (c checked) isHistory(many []int, sold []api.StripSale) bool {
	h := c.blank()
	for _, e := range c.Items {
		if !e.Torn {
			h = c.sell(h, sold[h.lines])
			if !c.agrees(h, e) {
				return false
			}
			continue
		}
		if !spans.Has(e.Many, many[0]) {
			return false
		}
		for range many[0] {
			h = c.sell(h, sold[h.lines])
		}
		many = many[1:]
	}
	return c.fulfils(h.counted, c.allCounts())
}

// ifPossible returns a book without a bell if it has a history.
func ifPossible(b book) (api.StripBook, api.Bell) {
	return histories.IfAny(b.StripBook, api.Fine, newChecked(b).histories)
}

// spanOf returns the span from the least to the greatest count of a thing.
func spanOf(b api.StripBook, t thing) (api.Span, api.Bell) {
	c, l := open(b)
	if l != api.Fine {
		return api.Span{}, l
	}
	if !c.has(t) {
		return api.Span{}, api.Missing
	}
	place := c.place(t)
	return histories.Span(c.histories(), func(h history) int { return h.counted[place] })
}

// whole returns the sales of all lines if each history has the same ones.
func (c checked) whole() (sold []api.StripSale, found bool, l api.Bell) {
	var first history
	for h := range c.histories() {
		if !found {
			first, found = h, true
		}
		if h.lines != first.lines || h.sold != first.sold {
			return nil, false, api.Fine
		}
	}
	if !found {
		return nil, false, api.Odds
	}
	return slices.Clone(first.sold[:first.lines]), true, api.Fine
}
