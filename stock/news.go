package stock

import (
	"slices"

	"nosale/api"
	"nosale/histories"
	"nosale/lists"
)

// alone returns the book with the counts of a set and no others.
func (c checked) alone(set int) checked {
	var counts []api.StockCount
	for _, i := range lists.OfSet(set) {
		counts = append(counts, c.Counts[i])
	}
	c.Counts = counts
	return c
}

// clash returns the fewest counts that alone have no history, and of several such lists the least one, if there are such counts.
func (c checked) clash() (counts []int, found bool) {
	return lists.LeastOf(lists.Those(1<<len(c.Counts), func(set int) bool {
		return !histories.Any(c.alone(set).histories())
	})...)
}

// blame returns the fewest notes with which alone being false something can have happened, and of several such lists the least one, if there is any.
func (c checked) blame() (notes []int, found bool) {
	var can []int
	for _, lies := range c.lies {
		if histories.Any(c.told(lies)) {
			can = append(can, lies)
		}
	}
	return lists.LeastOf(can...)
}

// rest is a good, and how many of it are there at the end of the last day.
type rest struct{ good, many int }

// rests returns how many histories there are, and how many of them leave each rest.
func (c checked) rests() (all int, leave map[rest]int) {
	leave = map[rest]int{}
	for h := range c.histories() {
		all++
		for good, many := range c.stocksAt(h, c.Days) {
			leave[rest{good, many}]++
		}
	}
	return all, leave
}

// ask returns the good whose count at the end of the last day leaves the fewest histories at most, and how many those are; -1, and all histories, if none leaves fewer. Without a history none is left.
func (c checked) ask() (good, left int) {
	all, leave := c.rests()
	var most stocks
	for r, many := range leave {
		most[r.good] = max(most[r.good], many)
	}
	return histories.Best(all, len(c.Goods), func(good int) int { return most[good] })
}

// copyBook returns a book that shares no memory with b.
func copyBook(b api.StockBook) api.StockBook {
	b.Goods = slices.Clone(b.Goods)
	b.Moves = slices.Clone(b.Moves)
	b.Counts = slices.Clone(b.Counts)
	return b
}

// ifPossible returns a book if it has no bell, and a history.
func ifPossible(b api.StockBook) (api.StockBook, api.Bell) {
	c, l := open(b)
	return histories.IfAny(b, l, c.histories)
}
