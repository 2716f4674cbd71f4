package change

import (
	"slices"

	"nosale/api"
	"nosale/lists"
)

// drawersOf returns the coins that the drawer has at first in histories, each once.
func drawersOf(all []history) []coins {
	var drawers []coins
	for _, h := range all {
		if !slices.Contains(drawers, h.first) {
			drawers = append(drawers, h.first)
		}
	}
	return drawers
}

// best returns the least order in which the fewest sales are refused at most, whichever of the drawers it is, and how many.
func (c checked) best(drawers []coins) (best order, refused int) {
	refused = len(c.Sales) + 1
orders:
	for o := range c.orders() {
		most := 0
		for _, first := range drawers {
			most = max(most, c.play(first, o).manyRefused())
			if most >= refused {
				continue orders
			}
		}
		best, refused = o, most
	}
	return best, refused
}

// floats returns all coins, as many as can be put into the drawer, with which no sale is refused in any history.
func (c checked) floats(all []history) []coins {
	tries := slices.Collect(c.handfuls(api.MaxChangeMore))
	enough := lists.Those(len(tries), func(i int) bool {
		// The change that is known is written to: each goroutine has its own.
		return newChecked(c.book).isEnough(tries[i], all)
	})
	var floats []coins
	for _, i := range enough {
		floats = append(floats, tries[i])
	}
	return floats
}

// isEnough tells whether no sale is refused in any history if more coins are in the drawer at first.
func (c checked) isEnough(more coins, all []history) bool {
	for _, h := range all {
		if c.play(h.first.plus(more), h.order).refused != 0 {
			return false
		}
	}
	return true
}
