package audit

import (
	"nosale/api"
	"nosale/build"
	"nosale/change"
	"nosale/checks"
	"nosale/evening"
	"nosale/sales"
	"nosale/spans"
	"nosale/stock"
	"nosale/strip"
	"nosale/tag"
	"nosale/tour"
	"nosale/wheels"
)

// The fields that kinds of entries, and of questions, can use; each is a bit of a set.
const (
	usesA = 1 << iota
	usesB
	usesL
	usesMany
	usesS
)

// setOf returns the set of those fields, in their order, that are used.
func setOf(used ...bool) int {
	set := 0
	for i, is := range used {
		if is {
			set |= 1 << i
		}
	}
	return set
}

// kind is a kind of entries: its word, the fields that it uses, and what does an entry of the kind with a file. With a bell the file is spoilt.
type kind struct {
	word string
	uses int
	do   func(e entry, b *api.AuditBook) api.Bell
}

// manyKinds is how many kinds of entries there are.
const manyKinds = int(api.AuditWay) + 1

// kinds returns all kinds of entries.
func kinds() [manyKinds]kind {
	return [manyKinds]kind{
		api.AuditNone:  {"none", 0, entry.nothing},
		api.AuditRing:  {"ring", usesA | usesL, entry.ring},
		api.AuditStrip: {"strip", usesA | usesB | usesMany, entry.strip},
		api.AuditPrice: {"price", usesA | usesMany, entry.price},
		api.AuditHang:  {"hang", usesMany | usesS, entry.hang},
		api.AuditSale:  {"sale", usesA | usesB, entry.sale},
		api.AuditCoins: {"coins", usesA | usesMany, entry.coins},
		api.AuditTicks: {"ticks", usesA | usesMany, entry.ticks},
		api.AuditSign:  {"sign", usesA | usesB, entry.sign},
		api.AuditFix:   {"fix", usesA | usesB | usesMany, entry.fix},
		api.AuditClear: {"clear", usesA | usesB, entry.clear},
		api.AuditMoney: {"money", usesA | usesMany, entry.money},
		api.AuditGoods: {"goods", usesA | usesB | usesMany, entry.goods},
		api.AuditWay:   {"way", usesA | usesMany, entry.way},
	}
}

// kindWords returns the words of all kinds of entries.
func kindWords() []string {
	var words []string
	for _, k := range kinds() {
		words = append(words, k.word)
	}
	return words
}

// entry is an entry that can have a bell.
type entry struct{ api.AuditEntry }

// done returns the file in which the entry is done, or the bell.
func (e entry) done(b api.AuditBook) (api.AuditBook, api.Bell) {
	l := checks.InTurn(e.checkHead, e.checkFields, e.checkSwitch, func() api.Bell { return kinds()[e.Kind].do(e, &b) })
	if l != api.Fine {
		return api.AuditBook{}, l
	}
	return b, api.Fine
}

// hasKind tells whether the kind of the entry is one that is listed.
func (e entry) hasKind() bool { return spans.Within(int(e.Kind), 0, manyKinds-1) }

// checkHead returns the bell of the kind and the day of the entry.
func (e entry) checkHead() api.Bell {
	if !e.hasKind() || !isDay(e.Day) {
		return api.Bound
	}
	return api.Fine
}

// isDay tells whether a number is a day.
func isDay(day int) bool { return spans.Within(day, 0, api.MaxAuditDay) }

// checkFields returns the bell of the fields that the kind of the entry does not use.
func (e entry) checkFields() api.Bell {
	used := setOf(e.A != 0, e.B != 0, len(e.L) > 0, e.Many != api.Span{}, e.S != "")
	if used&^kinds()[e.Kind].uses != 0 {
		return api.Shape
	}
	return api.Fine
}

// checkSwitch returns the bell of B, if it says whether something is so.
func (e entry) checkSwitch() api.Bell {
	switch e.Kind {
	case api.AuditSale, api.AuditSign:
		if !spans.Within(e.B, 0, 1) {
			return api.Bound
		}
	}
	return api.Fine
}

// isSo tells whether B says that something is so.
func (e entry) isSo() bool { return e.B == 1 }

func (e entry) nothing(b *api.AuditBook) api.Bell { return api.Fine }

func (e entry) ring(b *api.AuditBook) (l api.Bell) {
	b.Wheels, l = wheels.Read(b.Wheels, e.A, e.L)
	return l
}

func (e entry) strip(b *api.AuditBook) (l api.Bell) {
	b.Strip, l = strip.Note(b.Strip, api.StripCount{Kind: api.StripKind(e.A), A: e.B, Many: e.Many})
	return l
}

func (e entry) price(b *api.AuditBook) (l api.Bell) {
	b.House, l = tag.Learn(b.House, e.A, e.Many)
	return l
}

func (e entry) hang(b *api.AuditBook) (l api.Bell) {
	b.House, l = tag.Hang(b.House, api.TagTag{Reads: e.S, Price: e.Many})
	return l
}

func (e entry) sale(b *api.AuditBook) (l api.Bell) {
	b.Drawer, l = change.See(b.Drawer, e.A, e.isSo())
	return l
}

func (e entry) coins(b *api.AuditBook) (l api.Bell) {
	b.Drawer, l = change.Note(b.Drawer, api.ChangeCount{Kind: e.A, Many: e.Many})
	return l
}

func (e entry) ticks(b *api.AuditBook) (l api.Bell) {
	b.Works, l = build.Time(b.Works, e.A, e.Many)
	return l
}

func (e entry) sign(b *api.AuditBook) (l api.Bell) {
	b.Day, l = sales.Sign(b.Day, e.A, e.isSo())
	return l
}

func (e entry) fix(b *api.AuditBook) (l api.Bell) {
	b.Day, l = sales.Correct(b.Day, api.SalesSlip{Kind: api.SalesFix, Clerk: e.B, For: e.A, Amount: e.Many, Signed: api.Yes})
	return l
}

func (e entry) clear(b *api.AuditBook) (l api.Bell) {
	b.Evening, l = evening.Clear(b.Evening, e.A, e.B)
	return l
}

func (e entry) money(b *api.AuditBook) (l api.Bell) {
	b.Evening, l = evening.Count(b.Evening, api.EveningCount{After: e.A, Money: e.Many})
	return l
}

func (e entry) goods(b *api.AuditBook) (l api.Bell) {
	b.Stock, l = stock.Note(b.Stock, api.StockCount{Good: e.A, Day: e.B, Many: e.Many})
	return l
}

func (e entry) way(b *api.AuditBook) (l api.Bell) {
	b.Tour, l = tour.Time(b.Tour, e.A, e.Many)
	return l
}
