package stock_test

import (
	"cmp"
	"slices"

	"nosale/api"
	"nosale/dice"
	"nosale/oracle"
)

// The oracle goes through all numbers, all notes that can be false, and all days, one by one; it calls nothing of the package.

// past is what happened: how many there were of each good at first, how many each move says, and the notes that are false, ascending.
type past struct{ first, many, lies []int }

// really returns how many really came, were sold, and so on, by a move.
func (p past) really(move int) int {
	if slices.Contains(p.lies, move) {
		return 0
	}
	return p.many[move]
}

// stockOf returns the stock of a good at the end of a day.
func stockOf(b api.StockBook, p past, good, day int) int {
	n := p.first[good]
	for today := 1; today <= day; today++ {
		for i, m := range b.Moves {
			if m.Good != good || m.Day != today {
				continue
			}
			switch m.Kind {
			case api.StockCame, api.StockBack:
				n += p.really(i)
			case api.StockSold, api.StockLost, api.StockGiven:
				n -= p.really(i)
			}
		}
	}
	return n
}

// endOf returns the stock of a good at the end of the last day.
func endOf(b api.StockBook, p past, good int) int { return stockOf(b, p, good, b.Days) }

// lowOf returns the least stock of a good at the end of any day.
func lowOf(b api.StockBook, p past, good int) int {
	low := p.first[good]
	for day := range b.Days + 1 {
		low = min(low, stockOf(b, p, good, day))
	}
	return low
}

// lostOf returns how many of a good were lost on the days from from to to.
func lostOf(b api.StockBook, p past, good, from, to int) int {
	sum := 0
	for day := from; day <= to; day++ {
		for i, m := range b.Moves {
			if m.Kind == api.StockLost && m.Good == good && m.Day == day {
				sum += p.many[i]
			}
		}
	}
	return sum
}

// worthOf returns what all goods cost that are there at the end of a day.
func worthOf(b api.StockBook, p past, day int) int {
	sum := 0
	for good, g := range b.Goods {
		for range stockOf(b, p, good, day) {
			sum += g.Cost
		}
	}
	return sum
}

// lastsOf returns for how many days so many can be sold.
func lastsOf(left, rate int) int {
	days := 0
	for left >= rate {
		left -= rate
		days++
	}
	return days
}

// isCounted tells whether no stock is below 0, and the counts are right.
func isCounted(b api.StockBook, p past) bool {
	for good := range b.Goods {
		if lowOf(b, p, good) < 0 {
			return false
		}
	}
	for _, c := range b.Counts {
		if !oracle.Has(c.Many, stockOf(b, p, c.Good, c.Day)) {
			return false
		}
	}
	return true
}

// agrees tells whether what happened is a history of a book.
func agrees(b api.StockBook, p past) bool {
	for i, g := range b.Goods {
		if !oracle.Has(g.First, p.first[i]) {
			return false
		}
	}
	for i, m := range b.Moves {
		if !oracle.Has(m.Many, p.many[i]) {
			return false
		}
	}
	return len(p.lies) <= b.Most && isCounted(b, p)
}

// notes returns the moves of which there are notes.
func notes(b api.StockBook) []int {
	return oracle.Kept(oracle.Indexes(len(b.Moves)), func(i int) bool { return b.Moves[i].Kind == api.StockCame })
}

// plays returns all that can have happened, of the numbers of all spans, with so many notes at most that are false.
func plays(b api.StockBook, most int) []past {
	var places [][]int
	for _, g := range b.Goods {
		places = append(places, oracle.UpTo(g.First.Low, g.First.High))
	}
	for _, m := range b.Moves {
		places = append(places, oracle.UpTo(m.Many.Low, m.Many.High))
	}
	goods := len(b.Goods)
	var all []past
	for _, lies := range oracle.Chosen(notes(b), most) {
		for _, list := range oracle.Combined(places) {
			all = append(all, past{list[:goods:goods], list[goods:], lies})
		}
	}
	return all
}

// pasts returns all histories of a book.
func pasts(b api.StockBook) []past {
	return oracle.Kept(plays(b, b.Most), func(p past) bool { return agrees(b, p) })
}

// buyOf returns the fewest packs of each good with which so many can be sold each day, and what they cost.
func buyOf(b api.StockBook, all []past, rates []int, days int) (packs []int, cost int) {
	for good, g := range b.Goods {
		many := 0
		for slices.ContainsFunc(all, func(p past) bool { return runsOut(endOf(b, p, good)+many*g.Pack, rates[good], days) }) {
			many++
		}
		packs = append(packs, many)
		for range many * g.Pack {
			cost += g.Cost
		}
	}
	return packs, cost
}

// runsOut tells whether so many cannot be sold each day for so many days.
func runsOut(left, rate, days int) bool {
	for range days {
		left -= rate
	}
	return left < 0
}

// alone returns a book with some of its counts alone.
func alone(b api.StockBook, counts []int) api.StockBook {
	b.Counts = oracle.Picked(b.Counts, counts)
	return b
}

// clashOf returns the fewest counts that alone have no history.
func clashOf(b api.StockBook) ([]int, api.Bell) {
	for _, counts := range oracle.Subsets(len(b.Counts)) {
		if len(pasts(alone(b, counts))) == 0 {
			if len(counts) == 0 {
				return nil, api.Short
			}
			return counts, api.Fine
		}
	}
	return nil, api.Fine
}

// blameOf returns the fewest notes that are all that is false in anything that can have happened, and whether there are any.
func blameOf(b api.StockBook) (lies []int, found bool) {
	for _, p := range plays(b, len(b.Moves)) {
		if isCounted(b, p) && (!found || cmp.Or(cmp.Compare(len(p.lies), len(lies)), slices.Compare(p.lies, lies)) < 0) {
			lies, found = p.lies, true
		}
	}
	return lies, found
}

// askOf returns the good to count, and how many histories are left at most.
func askOf(b api.StockBook, all []past) (good, left int) {
	return oracle.Ask(all, len(b.Goods), func(p past, good int) int { return endOf(b, p, good) })
}

// wide returns how many numbers a span has at most: most often one, lest there be too many histories.
func wide(d *dice.Dice) int {
	if d.Roll(5) < 3 {
		return 1
	}
	return 2 + d.Roll(api.MaxStockWide-1)
}

// some returns a span of few numbers in which a number is.
func some(d *dice.Dice, n int) api.Span { return d.Around(n, wide(d), 0, api.MaxStockMany) }

// anyGoods returns a book without moves and counts, and how many there really were of each good at first.
func anyGoods(d *dice.Dice) (api.StockBook, past) {
	b := api.StockBook{Days: 1 + d.Roll(8), Most: d.Roll(api.MaxStockMost + 1)}
	var p past
	for _, name := range []string{"tea", "rice", "oil"}[:1+d.Roll(api.MaxStockGoods)] {
		n := d.Roll(8)
		b.Goods = append(b.Goods, api.StockGood{Name: name, Cost: d.Roll(10), Pack: 1 + d.Roll(6), First: some(d, n)})
		p.first = append(p.first, n)
	}
	return b, p
}

// anyNumber returns how many a move says, and whether that is false, if there are so many of the good, and another note can be false.
func anyNumber(d *dice.Dice, kind api.StockKind, stock int, can bool) (many int, lie bool) {
	switch kind {
	case api.StockCame:
		return d.Roll(7), can && d.Roll(3) == 0
	case api.StockBack:
		return d.Roll(3), false
	}
	return d.Roll(min(stock, 6) + 1), false
}

// anyMoves returns a book with moves and without counts, and what really happened; moves of one day stand in any order.
func anyMoves(d *dice.Dice, moves int) (api.StockBook, past) {
	b, p := anyGoods(d)
	days := []int{}
	for range d.Roll(moves + 1) {
		days = append(days, 1+d.Roll(b.Days))
	}
	slices.Sort(days)
	for i, day := range days {
		m := api.StockMove{Kind: api.StockKind(max(0, d.Roll(8)-3)), Good: d.Roll(len(b.Goods)), Day: day}
		n, lie := anyNumber(d, m.Kind, stockOf(b, p, m.Good, day), len(p.lies) < b.Most)
		m.Many = some(d, n)
		b.Moves, p.many = append(b.Moves, m), append(p.many, n)
		if lie {
			p.lies = append(p.lies, i)
		}
	}
	order := d.Shuffled(len(days))
	slices.SortStableFunc(order, func(i, j int) int { return cmp.Compare(days[i], days[j]) })
	return inOrder(b, p, order)
}

// inOrder returns a book and what happened with the moves in another order.
func inOrder(b api.StockBook, p past, order []int) (api.StockBook, past) {
	b.Moves = oracle.Picked(b.Moves, order)
	var lies []int
	for now, old := range order {
		if slices.Contains(p.lies, old) {
			lies = append(lies, now)
		}
	}
	return b, past{p.first, oracle.Picked(p.many, order), lies}
}

// anyCount returns a count that is right.
func anyCount(d *dice.Dice, b api.StockBook, p past) api.StockCount {
	c := api.StockCount{Good: d.Roll(len(b.Goods)), Day: d.Roll(b.Days + 1)}
	c.Many = d.Around(stockOf(b, p, c.Good, c.Day), 1+d.Roll(3), 0, api.MaxStockSum)
	return c
}

// anyBook returns a book without a bell, and what really happened; if wrong is true, what was counted can be wrong, and more can be false than the book says.
func anyBook(d *dice.Dice, moves int, wrong bool) (api.StockBook, past) {
	b, p := anyMoves(d, moves)
	for range d.Roll(api.MaxStockCounts + 1) {
		c := anyCount(d, b, p)
		if shift := 1 + d.Roll(3); wrong && d.Roll(3) == 0 {
			c.Many = to(c.Many.Low+shift, c.Many.High+shift)
		}
		b.Counts = append(b.Counts, c)
	}
	if wrong {
		b.Most = d.Roll(api.MaxStockMost + 1)
	}
	return b, p
}
