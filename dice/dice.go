// Package dice yields numbers and spans that look like any ones, and are the same each time: the tests of the layers make their books of them.
package dice

import (
	"slices"

	"nosale/api"
)

// Dice is where the numbers begin, and how far they got.
type Dice uint64

// Roll returns a number from 0 to n - 1.
func (d *Dice) Roll(n int) int {
	*d = *d*6364136223846793005 + 1442695040888963407
	return int(uint64(*d) >> 33 % uint64(n))
}

// Shuffled returns the numbers from 0 to n - 1 in some order.
func (d *Dice) Shuffled(n int) []int {
	var list []int
	for i := range n {
		list = slices.Insert(list, d.Roll(i+1), i)
	}
	return list
}

// Around returns a span from low to high, of so many numbers at most, in which a number is.
func (d *Dice) Around(n, wide, low, high int) api.Span {
	from := max(low, n-d.Roll(wide))
	return api.Span{Low: from, High: min(high, max(n, from+d.Roll(wide)))}
}
