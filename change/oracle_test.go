package change_test

import (
	"cmp"
	"slices"

	"nosale/api"
	"nosale/dice"
	"nosale/oracle"
)

// The oracle goes through all coins that can be given, all drawers and all orders, one by one; it calls nothing of the package.

// past is a history: the drawer at first, the order of the sales, those that are refused, ascending, and the coins in the end.
type past struct {
	first, order, refused, last []int
}

// went tells whether a sale went.
func (p past) went(sale int) bool { return !slices.Contains(p.refused, sale) }

// listsUpTo returns all lists whose numbers are from 0 to those of most, the least list first.
func listsUpTo(most []int) [][]int {
	var places [][]int
	for _, m := range most {
		places = append(places, oracle.UpTo(0, m))
	}
	return oracle.Combined(places)
}

// sum returns the sum of a list.
func sum(list []int) int {
	n := 0
	for _, x := range list {
		n += x
	}
	return n
}

// worth returns the amount of coins.
func worth(kinds, coins []int) int {
	n := 0
	for i, value := range kinds {
		n += value * coins[i]
	}
	return n
}

// added returns the sum of two lists, number by number; the second one counts so many times.
func added(a, b []int, times int) []int {
	list := slices.Clone(a)
	for i := range list {
		list[i] += times * b[i]
	}
	return list
}

// ways returns all change for an amount out of coins, the least list first.
func ways(kinds, there []int, amount int) [][]int {
	most := slices.Clone(there)
	for i, value := range kinds {
		most[i] = min(most[i], amount/value)
	}
	return slices.DeleteFunc(listsUpTo(most), func(list []int) bool { return worth(kinds, list) != amount })
}

// given returns the change that is given for an amount; nothing if there is none.
func given(kinds, there []int, amount int) []int {
	all := ways(kinds, there, amount)
	if len(all) == 0 {
		return nil
	}
	return slices.MinFunc(all, func(a, b []int) int {
		return cmp.Or(cmp.Compare(sum(a), sum(b)), slices.Compare(b, a))
	})
}

// cannotOf returns the amounts from 1 to most that no coins of those that are there have.
func cannotOf(kinds, there []int, most int) []int {
	can := map[int]bool{0: true}
	for i, value := range kinds {
		for range there[i] {
			next := map[int]bool{}
			for a := range can {
				next[a], next[a+value] = true, true
			}
			can = next
		}
	}
	var list []int
	for a := 1; a <= most; a++ {
		if !can[a] {
			list = append(list, a)
		}
	}
	return list
}

// handfuls returns all coins of so many kinds that are so many at most, the fewest first, then the least list.
func handfuls(kinds, most int) [][]int {
	all := slices.DeleteFunc(listsUpTo(slices.Repeat([]int{most}, kinds)), func(list []int) bool { return sum(list) > most })
	slices.SortStableFunc(all, func(a, b []int) int { return cmp.Compare(sum(a), sum(b)) })
	return all
}

// swapOf returns the best swap; found is false if there is none.
func swapOf(kinds, there []int, most int) (in, out []int, found bool) {
	for _, in := range handfuls(len(kinds), api.MaxChangeSwap) {
		for _, out := range ways(kinds, there, worth(kinds, in)) {
			if len(cannotOf(kinds, added(added(there, out, -1), in, 1), most)) == 0 {
				return in, out, true
			}
		}
	}
	return nil, nil, false
}

// orders returns all orders of so many sales, the least one first.
func orders(many int) [][]int {
	all := listsUpTo(slices.Repeat([]int{many - 1}, many))
	return slices.DeleteFunc(all, func(list []int) bool {
		list = slices.Clone(list)
		slices.Sort(list)
		return len(slices.Compact(list)) < many
	})
}

// drawers returns all coins that a drawer can have at first.
func drawers(b api.ChangeBook) [][]int {
	var low, wide []int
	for _, s := range b.Drawer {
		low, wide = append(low, s.Low), append(wide, s.High-s.Low)
	}
	all := listsUpTo(wide)
	for i, list := range all {
		all[i] = added(low, list, 1)
	}
	return all
}

// played returns what becomes of a drawer if the sales come in an order.
func played(b api.ChangeBook, first, order []int) past {
	p := past{first: first, order: order, last: first}
	for _, i := range order {
		s := b.Sales[i]
		all := added(p.last, s.Paid, 1)
		if out := given(b.Kinds, all, worth(b.Kinds, s.Paid)-s.Price); out != nil {
			p.last = added(all, out, -1)
		} else {
			p.refused = append(p.refused, i)
		}
	}
	slices.Sort(p.refused)
	return p
}

// isOrdered tells whether all firsts are so in an order.
func isOrdered(b api.ChangeBook, order []int) bool {
	for _, f := range b.Firsts {
		if slices.Index(order, f.Before) >= slices.Index(order, f.After) {
			return false
		}
	}
	return true
}

// agrees tells whether all that is known of a book is so.
func agrees(b api.ChangeBook, p past) bool {
	for i, s := range b.Sales {
		if s.Seen == api.Yes && !p.went(i) || s.Seen == api.No && p.went(i) {
			return false
		}
	}
	for _, c := range b.Counts {
		if p.last[c.Kind] < c.Many.Low || p.last[c.Kind] > c.Many.High {
			return false
		}
	}
	return isOrdered(b, p.order)
}

// plays returns what becomes of each drawer with each order, whatever is known.
func plays(b api.ChangeBook) []past {
	var all []past
	for _, first := range drawers(b) {
		for _, order := range orders(len(b.Sales)) {
			all = append(all, played(b, first, order))
		}
	}
	return all
}

// kept returns those that agree with a book.
func kept(b api.ChangeBook, all []past) []past {
	return oracle.Kept(all, func(p past) bool { return agrees(b, p) })
}

// pasts returns all histories of a book.
func pasts(b api.ChangeBook) []past { return kept(b, plays(b)) }

// bestOf returns the least order that refuses the fewest sales at most, and how many.
func bestOf(b api.ChangeBook, all []past) (best []int, refused int) {
	refused = len(b.Sales) + 1
	for _, order := range orders(len(b.Sales)) {
		most := 0
		for _, p := range all {
			most = max(most, len(played(b, p.first, order).refused))
		}
		if isOrdered(b, order) && most < refused {
			best, refused = order, most
		}
	}
	return best, refused
}

// isEnough tells whether no sale is refused in any history, if more coins are there at first.
func isEnough(b api.ChangeBook, all []past, more []int) bool {
	return !slices.ContainsFunc(all, func(p past) bool {
		return len(played(b, added(p.first, more, 1), p.order).refused) > 0
	})
}

// floatOf returns the fewest coins that are enough.
func floatOf(b api.ChangeBook, all []past) (more []int, found bool) {
	for _, more := range handfuls(len(b.Kinds), api.MaxChangeMore) {
		if isEnough(b, all, more) {
			return more, true
		}
	}
	return nil, false
}

// alone returns a book with some of its counts alone.
func alone(b api.ChangeBook, counts []int) api.ChangeBook {
	b.Counts = oracle.Picked(b.Counts, counts)
	return b
}

// clashOf returns the fewest counts that alone have no history.
func clashOf(b api.ChangeBook, all []past) ([]int, api.Bell) {
	for _, list := range oracle.Subsets(len(b.Counts)) {
		if len(kept(alone(b, list), all)) == 0 {
			if len(list) == 0 {
				return nil, api.Short
			}
			return list, api.Fine
		}
	}
	return nil, api.Fine
}

// askOf returns the kind to count, and how many histories are left at most.
func askOf(b api.ChangeBook, all []past) (kind, left int) {
	return oracle.Ask(all, len(b.Kinds), func(p past, kind int) int { return p.last[kind] })
}

// anyKinds returns values of kinds.
func anyKinds(d *dice.Dice) []int {
	some := [][]int{{1}, {5}, {2, 1}, {5, 2}, {4, 2, 1}, {6, 4, 1}, {5, 2, 1}, {7, 5, 3}, {6, 4, 2}, {10, 5, 2, 1}, {12, 8, 6, 3}, {500, 200, 100, 50}}
	if d.Roll(3) > 0 {
		return slices.Clone(some[d.Roll(len(some))])
	}
	top := []int{6, 20, api.MaxChangeValue}[d.Roll(3)]
	var kinds []int
	for range 1 + d.Roll(api.MaxChangeKinds) {
		kinds = append(kinds, 1+d.Roll(top))
	}
	slices.Sort(kinds)
	kinds = slices.Compact(kinds)
	slices.Reverse(kinds)
	return kinds
}

// anyCoins returns a number from 0 to most for each kind.
func anyCoins(d *dice.Dice, kinds, most int) []int {
	var coins []int
	for range kinds {
		coins = append(coins, d.Roll(most+1))
	}
	return coins
}

// anySale returns a sale of which nothing was seen.
func anySale(d *dice.Dice, kinds []int) api.ChangeSale {
	s := api.ChangeSale{Paid: make([]int, len(kinds))}
	great := d.Roll(1 + d.Roll(len(kinds)))
	s.Paid[great] = 1 + d.Roll(1+d.Roll(api.MaxChangePaid))
	if d.Roll(3) == 0 {
		s.Paid[d.Roll(len(kinds))]++
	}
	s.Paid[great] = min(s.Paid[great], api.MaxChangePaid)
	paid := worth(kinds, s.Paid)
	s.Price = d.Roll(min(paid, api.MaxChangePrice) + 1)
	// a price out of which change can be given in small coins
	out := anyCoins(d, len(kinds), 1+d.Roll(2))
	clear(out[:great+1])
	if p := paid - worth(kinds, out); d.Roll(5) > 0 && p >= 0 && p <= api.MaxChangePrice {
		s.Price = p
	}
	return s
}

// anyBook returns a book without a bell, and what really happened; if lies is true, what is known can be false.
func anyBook(d *dice.Dice, lies bool) (api.ChangeBook, past) {
	b := api.ChangeBook{Kinds: anyKinds(d)}
	first := anyCoins(d, len(b.Kinds), 1+d.Roll(3))
	for _, n := range first {
		b.Drawer = append(b.Drawer, d.Around(n, api.MaxChangeWide, 0, api.MaxChangeCoins))
	}
	for range d.Roll(api.MaxChangeSales + 1) {
		b.Sales = append(b.Sales, anySale(d, b.Kinds))
	}
	real := played(b, first, d.Shuffled(len(b.Sales)))
	told := real
	if lies && d.Roll(2) == 0 {
		told = played(b, anyCoins(d, len(b.Kinds), 4), d.Shuffled(len(b.Sales)))
	}
	learn(d, &b, told)
	if !lies {
		return b, real
	}
	// each of several counts can be right, but not all of them
	for i, c := range b.Counts {
		if all := drawers(b); d.Roll(2) == 0 {
			other := played(b, all[d.Roll(len(all))], d.Shuffled(len(b.Sales)))
			b.Counts[i].Many = d.Around(other.last[c.Kind], 1+d.Roll(2), 0, api.MaxChangeCount)
		}
	}
	return b, real
}

// learn makes some of what happened known in a book.
func learn(d *dice.Dice, b *api.ChangeBook, p past) {
	if d.Roll(3) == 0 {
		return
	}
	for i := range b.Sales {
		if d.Roll(3) > 0 {
			continue
		}
		b.Sales[i].Seen = api.No
		if p.went(i) {
			b.Sales[i].Seen = api.Yes
		}
	}
	for range d.Roll(api.MaxChangeFirsts + 1) {
		if i := d.Roll(max(1, len(p.order))); i > 0 && d.Roll(2) == 0 {
			b.Firsts = append(b.Firsts, api.ChangeFirst{Before: p.order[d.Roll(i)], After: p.order[i]})
		}
	}
	for range d.Roll(api.MaxChangeCounts + 1) {
		k := d.Roll(len(b.Kinds))
		b.Counts = append(b.Counts, api.ChangeCount{Kind: k, Many: d.Around(p.last[k], 1+d.Roll(6), 0, api.MaxChangeCount)})
	}
}
