package change

import (
	"nosale/api"
	"nosale/checks"
	"nosale/spans"
)

// book is a book that can have a bell.
type book struct{ api.ChangeBook }

// lists returns the lists of a book in the order in which they are checked.
func (b book) lists() []checks.List[book] {
	return []checks.List[book]{
		{Long: book.longKinds, Bell: book.checkKind},
		{Long: book.longDrawer, Bell: book.checkDrawer},
		{Long: book.longSales, Bell: book.checkSale},
		{Long: book.longFirsts, Bell: book.checkFirst},
		{Long: book.longCounts, Bell: book.checkCount},
	}
}

// bell returns the first bell of the book.
func (b book) bell() api.Bell { return checks.First(b, b.lists()...) }

func (b book) longKinds() (many int, right bool) {
	return len(b.Kinds), spans.Within(len(b.Kinds), 1, api.MaxChangeKinds)
}

func (b book) longDrawer() (many int, right bool) {
	return len(b.Drawer), len(b.Drawer) == len(b.Kinds)
}

func (b book) longSales() (many int, right bool) {
	return len(b.Sales), len(b.Sales) <= api.MaxChangeSales
}

func (b book) longFirsts() (many int, right bool) {
	return len(b.Firsts), len(b.Firsts) <= api.MaxChangeFirsts
}

func (b book) longCounts() (many int, right bool) {
	return len(b.Counts), len(b.Counts) <= api.MaxChangeCounts
}

// checkKind returns the bell of the value of a kind.
func (b book) checkKind(i int) api.Bell {
	if !spans.Within(b.Kinds[i], 1, api.MaxChangeValue) {
		return api.Bound
	}
	if i > 0 && b.Kinds[i] >= b.Kinds[i-1] {
		return api.Order
	}
	return api.Fine
}

// checkDrawer returns the bell of the span of a kind in the drawer.
func (b book) checkDrawer(i int) api.Bell {
	s := b.Drawer[i]
	if !spans.IsFrom(s, 0, api.MaxChangeCoins) || spans.Many(s) > api.MaxChangeWide {
		return api.Bound
	}
	return api.Fine
}

// checkSale returns the bell of a sale.
func (b book) checkSale(i int) api.Bell {
	s := b.Sales[i]
	if l := b.checkCoins(s.Paid, api.MaxChangePaid); l != api.Fine {
		return l
	}
	if !spans.Within(s.Price, 0, api.MaxChangePrice) {
		return api.Bound
	}
	if b.amount(coinsOf(s.Paid)) < s.Price {
		return api.Short
	}
	if !spans.Within(int(s.Seen), int(api.Open), int(api.No)) {
		return api.Bound
	}
	return api.Fine
}

// checkFirst returns the bell of a first.
func (b book) checkFirst(i int) api.Bell {
	f := b.Firsts[i]
	if !b.hasSale(f.Before) || !b.hasSale(f.After) {
		return api.Missing
	}
	return api.Fine
}

// checkCount returns the bell of a count.
func (b book) checkCount(i int) api.Bell {
	c := b.Counts[i]
	if !b.hasKind(c.Kind) {
		return api.Missing
	}
	if !spans.IsFrom(c.Many, 0, api.MaxChangeCount) {
		return api.Bound
	}
	return api.Fine
}

// checkCoins returns the bell of coins, of each kind so many at most.
func (b book) checkCoins(list []int, most int) api.Bell {
	return checks.Each(list, len(b.Kinds), most)
}

// checkOrder returns the bell of an order of all sales.
func (b book) checkOrder(order []int) api.Bell {
	if len(order) != len(b.Sales) {
		return api.Count
	}
	return checks.Once(order, len(b.Sales))
}

// hasKind tells whether a number is the index of a kind.
func (b book) hasKind(kind int) bool { return spans.Within(kind, 0, len(b.Kinds)-1) }

// hasSale tells whether a number is the index of a sale.
func (b book) hasSale(sale int) bool { return spans.Within(sale, 0, len(b.Sales)-1) }
