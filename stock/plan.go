package stock

import (
	"nosale/api"
	"nosale/histories"
	"nosale/spans"
)

// lost returns how many of a good were lost on some days.
func (b book) lost(h history, good int, days api.Span) int {
	sum := 0
	for i, m := range b.Moves {
		if m.Kind == api.StockLost && m.Good == good && spans.Has(days, m.Day) {
			sum += h.really(i)
		}
	}
	return sum
}

// worth returns what stocks cost together.
func (b book) worth(s stocks) int {
	sum := 0
	for good, g := range b.Goods {
		sum += g.Cost * s[good]
	}
	return sum
}

// packsOf returns how many packs of a good are so many, or more; none if there are enough.
func packsOf(g api.StockGood, many int) int { return max(0, (many+g.Pack-1)/g.Pack) }

// buy returns the fewest packs of each good with which so many can be sold each day for so many days, and what they cost; Odds if there is no history.
func (c checked) buy(rates []int, days int) (packs []int, cost int, l api.Bell) {
	for good, g := range c.Goods {
		left, l := histories.Span(c.histories(), func(h history) int { return c.stocksAt(h, c.Days)[good] })
		if l != api.Fine {
			return nil, 0, l
		}
		many := packsOf(g, rates[good]*days-left.Low)
		packs = append(packs, many)
		cost += many * g.Pack * g.Cost
	}
	return packs, cost, api.Fine
}
