package audit_test

import (
	"slices"
	"strings"
	"testing"

	"nosale/api"
	"nosale/audit"
	"nosale/build"
	"nosale/change"
	"nosale/dice"
	"nosale/evening"
	"nosale/oracle"
	"nosale/sales"
	"nosale/stock"
	"nosale/strip"
	"nosale/tag"
	"nosale/tour"
	"nosale/wheels"
)

// truth is what really happened: a history of each part of a file.
type truth struct {
	shown         [][]int // at first, and behind each ring
	slips         []int   // rings and wheels
	many          []int
	sold          []api.StripSale
	word          []string // the letter that stands for each digit from 0 on
	prices        []int    // of the tags that hang there at first
	drawer, order []int
	times         []int
	written       []int
	signed        []bool
	float         int
	said          []int
	takings       []api.EveningTaking
	wrong         []int // slips of the evening
	first, moves  []int
	lies          []int
	ways, works   []int
}

// someOf returns a number of each of some spans.
func someOf(d *dice.Dice, spans ...api.Span) []int {
	var list []int
	for _, s := range spans {
		list = append(list, s.Low+d.Roll(s.High-s.Low+1))
	}
	return list
}

// spansOf returns a span of each thing.
func spansOf[E any](all []E, span func(e E) api.Span) []api.Span {
	var some []api.Span
	for _, e := range all {
		some = append(some, span(e))
	}
	return some
}

// until tries until something is so, which it is to be soon.
func until(t *testing.T, try func() bool) {
	t.Helper()
	for range 1000000 {
		if try() {
			return
		}
	}
	t.Fatal("it never is so")
}

// anyTruth returns what can really have happened, by a file of which each part has a history.
func anyTruth(d *dice.Dice, t *testing.T, b api.AuditBook) truth {
	t.Helper()
	var x truth
	until(t, func() bool { return x.ring(d, b.Wheels) })
	until(t, func() bool { return x.sell(d, b.Strip) })
	x.spell(d, t, b.House)
	until(t, func() bool {
		x.drawer = someOf(d, b.Drawer.Drawer...)
		x.order = d.Shuffled(len(b.Drawer.Sales))
		is, _ := change.IsHistory(b.Drawer, x.drawer, x.order)
		return is
	})
	until(t, func() bool {
		x.times = someOf(d, spansOf(b.Works.Parts, func(p api.BuildPart) api.Span { return p.Time })...)
		return hasTimes(b.Works, x.times)
	})
	until(t, func() bool {
		x.written, x.signed = someOf(d, spansOf(b.Day.Slips, func(s api.SalesSlip) api.Span { return s.Amount })...), nil
		for _, s := range b.Day.Slips {
			if s.Kind == api.SalesFix {
				x.signed = append(x.signed, d.Roll(2) == 0)
			}
		}
		is, _ := sales.IsHistory(b.Day, x.written, x.signed)
		return is
	})
	until(t, func() bool { return x.take(d, b.Evening) })
	until(t, func() bool {
		x.first = someOf(d, spansOf(b.Stock.Goods, func(g api.StockGood) api.Span { return g.First })...)
		x.moves = someOf(d, spansOf(b.Stock.Moves, func(m api.StockMove) api.Span { return m.Many })...)
		x.lies = oracle.Kept(oracle.Indexes(len(b.Stock.Moves)), func(i int) bool { return b.Stock.Moves[i].Kind == api.StockCame && d.Roll(3) == 0 })
		is, _ := stock.IsHistory(b.Stock, x.first, x.moves, x.lies)
		return is
	})
	until(t, func() bool {
		x.ways = someOf(d, spansOf(b.Tour.Ways, func(w api.TourWay) api.Span { return w.Time })...)
		x.works = someOf(d, spansOf(b.Tour.Jobs, func(j api.TourJob) api.Span { return j.Work })...)
		return hasWays(b.Tour, x.ways)
	})
	return x
}

// ring rings the keys, with some slips, and tells whether that is a history.
func (x *truth) ring(d *dice.Dice, b api.WheelsBook) bool {
	shown := slices.Clone(b.Start)
	for i, n := range shown {
		if n < 0 {
			shown[i] = d.Roll(b.Wheels[i].Base)
		}
	}
	x.shown, x.slips = [][]int{shown}, nil
	for i, r := range b.Rings {
		slid := oracle.Kept(oracle.Indexes(len(b.Wheels)), func(int) bool { return d.Roll(5) == 0 })
		next, l := wheels.Slide(b, shown, r.Keys, slid)
		if l != api.Fine {
			return false
		}
		for _, wheel := range slid {
			x.slips = append(x.slips, i, wheel)
		}
		x.shown, shown = append(x.shown, next), next
	}
	return len(x.slips) <= 2*b.Most && x.isRead(b)
}

// isRead tells whether what was read is what was really shown.
func (x *truth) isRead(b api.WheelsBook) bool {
	for i, r := range b.Rings {
		for wheel, digit := range r.Read {
			if digit >= 0 && digit != x.shown[i+1][wheel] {
				return false
			}
		}
	}
	return true
}

// sell sells on a strip, and tells whether that is a history.
func (x *truth) sell(d *dice.Dice, b api.StripBook) bool {
	x.many, x.sold = nil, nil
	long := 0
	for _, e := range b.Items {
		if e.Torn {
			n := someOf(d, e.Many)[0]
			x.many, long = append(x.many, n), long+n
		} else {
			long++
		}
	}
	for range long {
		x.sold = append(x.sold, api.StripSale{Article: d.Roll(len(b.Articles)), Clerk: d.Roll(b.Clerks)})
	}
	is, _ := strip.IsHistory(b, x.many, x.sold)
	return is
}

// spell chooses a word, and a number on each tag.
func (x *truth) spell(d *dice.Dice, t *testing.T, h api.TagHouse) {
	t.Helper()
	x.word, x.prices = nil, nil
	for digit := range 10 {
		letters, l := tag.Letters(h, digit)
		at := d.Roll(len(letters))
		o, l2 := tag.Know(h, digit, letters[at:at+1])
		if l+l2 != api.Fine {
			t.Fatal(l, l2)
		}
		x.word, h = append(x.word, letters[at:at+1]), o
	}
	for i := range h.Tags {
		prices, l := tag.Prices(h, i)
		n := prices[d.Roll(len(prices))]
		o, l2 := tag.Learn(h, i, one(n))
		if l+l2 != api.Fine {
			t.Fatal(l, l2)
		}
		x.prices, h = append(x.prices, n), o
	}
}

// house returns a house in which the word, and the prices of the tags that hang there at first, are known, or the bell.
func (x *truth) house(h api.TagHouse) (api.TagHouse, api.Bell) {
	for digit, letter := range x.word {
		var l api.Bell
		if h, l = tag.Know(h, digit, letter); l != api.Fine {
			return api.TagHouse{}, l
		}
	}
	return narrowed(h, x.prices, tag.Learn)
}

// narrowed returns a book in which a number of each of some things is told, or the bell of that.
func narrowed[B any](b B, numbers []int, tell func(b B, i int, x api.Span) (B, api.Bell)) (B, api.Bell) {
	for i, n := range numbers {
		var l api.Bell
		if b, l = tell(b, i, one(n)); l != api.Fine {
			return b, l
		}
	}
	return b, api.Fine
}

// hasTimes tells whether parts can have these times.
func hasTimes(b api.BuildBook, times []int) bool {
	_, l := narrowed(b, times, build.Time)
	return l == api.Fine
}

// hasWays tells whether ways can take these times.
func hasWays(b api.TourBook, ways []int) bool {
	_, l := narrowed(b, ways, tour.Time)
	return l == api.Fine
}

// take takes money in the evening, and tells whether that is a history.
func (x *truth) take(d *dice.Dice, b api.EveningBook) bool {
	x.float = someOf(d, b.Float)[0]
	x.said = someOf(d, spansOf(b.Hours, func(h api.EveningHour) api.Span { return h.Said })...)
	x.takings = nil
	for hour, h := range b.Hours {
		for _, clerk := range h.Staff {
			if d.Roll(3) == 0 && b.Take > 0 {
				x.takings = append(x.takings, api.EveningTaking{Hour: hour, Clerk: clerk, Amount: 1 + d.Roll(b.Take)})
			}
		}
	}
	x.wrong = oracle.Kept(oracle.Indexes(len(b.Wheels)), func(int) bool { return d.Roll(3) == 0 })
	is, _ := evening.Agrees(b, x.takings, x.wrong)
	return is && !slices.ContainsFunc(b.Counts, func(c api.EveningCount) bool { return !oracle.Has(c.Money, x.money(b, c.After)) })
}

// money is the money in the drawer behind an hour.
func (x *truth) money(b api.EveningBook, hour int) int {
	n := x.float + total(x.said[:hour+1])
	for _, slip := range x.wrong {
		if b.Wheels[slip].Hour <= hour {
			n -= b.Wheels[slip].Error
		}
	}
	for _, y := range x.takings {
		if y.Hour <= hour {
			n -= y.Amount
		}
	}
	return n
}

// left is the stock of a good at the end of a day.
func (x *truth) left(b api.StockBook, good, day int) int {
	n := x.first[good]
	for i, m := range b.Moves {
		if m.Good != good || m.Day > day || slices.Contains(x.lies, i) {
			continue
		}
		if m.Kind == api.StockCame || m.Kind == api.StockBack {
			n += x.moves[i]
		} else {
			n -= x.moves[i]
		}
	}
	return n
}

// now returns what a slip of the day amounts to.
func (x *truth) now(t *testing.T, b api.SalesBook, slip int) int {
	t.Helper()
	now, _, l := sales.Play(b, x.written, x.signed)
	if l != api.Fine {
		t.Fatal(l)
	}
	return now[slip]
}

// entry returns an entry of a kind that is right, if there is any: all that it says of a file that nobody has learnt more of is so.
func (x *truth) entry(d *dice.Dice, t *testing.T, b api.AuditBook, kind api.AuditKind) (e api.AuditEntry, found bool) {
	t.Helper()
	of := func(n int) int { return d.Roll(max(n, 1)) }
	e.Kind = kind
	switch kind {
	case api.AuditRing:
		e.A, found = of(len(b.Wheels.Rings)), len(b.Wheels.Rings) > 0
		if found {
			for _, digit := range x.shown[e.A+1] {
				e.L = append(e.L, []int{digit, digit, -1}[d.Roll(3)])
			}
		}
	case api.AuditStrip:
		return x.count(d, b.Strip), true
	case api.AuditPrice:
		e.A, found = of(len(x.prices)), len(x.prices) > 0
		if found {
			e.Many = d.Around(x.prices[e.A], 50, 0, api.MaxTagPrice)
		}
	case api.AuditHang:
		e, found = x.hang(d, t, b.House)
	case api.AuditSale:
		e.A, found = of(len(x.order)), len(x.order) > 0
		if refused, _, _ := change.Play(b.Drawer, x.drawer, x.order); !slices.Contains(refused, e.A) {
			e.B = 1
		}
	case api.AuditCoins:
		_, after, _ := change.Play(b.Drawer, x.drawer, x.order)
		e.A, found = of(len(after)), true
		e.Many = d.Around(after[e.A], 2, 0, api.MaxChangeCount)
	case api.AuditTicks:
		e.A, found = of(len(x.times)), true
		e.Many = d.Around(x.times[e.A], 3, 0, api.MaxBuildTime)
	case api.AuditSign:
		fixes := oracle.Kept(oracle.Indexes(len(b.Day.Slips)), func(i int) bool { return b.Day.Slips[i].Kind == api.SalesFix })
		if found = len(fixes) > 0; found {
			i := of(len(fixes))
			e.A, e.B = fixes[i], map[bool]int{true: 1}[x.signed[i]]
		}
	case api.AuditFix:
		e.A, e.B = of(len(b.Day.Slips)), d.Roll(4)
		if found = len(b.Day.Slips) > 0 && b.Day.Slips[e.A].Kind != api.SalesFix; found {
			e.Many = d.Around(x.now(t, b.Day, e.A), 2, 0, api.MaxSalesAmount)
		}
	case api.AuditClear:
		e.A = of(len(b.Evening.Hours))
		for _, clerk := range b.Evening.Hours[e.A].Staff {
			if !slices.ContainsFunc(x.takings, func(y api.EveningTaking) bool { return y.Hour == e.A && y.Clerk == clerk }) {
				e.B, found = clerk, true
			}
		}
	case api.AuditMoney:
		e.A, found = of(len(b.Evening.Hours)), true
		e.Many = d.Around(x.money(b.Evening, e.A), 4, 0, api.MaxEveningMoney)
	case api.AuditGoods:
		e.A, e.B, found = of(len(b.Stock.Goods)), of(b.Stock.Days+1), true
		e.Many = d.Around(x.left(b.Stock, e.A, e.B), 3, 0, api.MaxStockSum)
	case api.AuditWay:
		e.A, found = of(len(x.ways)), len(x.ways) > 0
		if found {
			e.Many = d.Around(x.ways[e.A], 3, 0, api.MaxTourTime)
		}
	}
	return e, found
}

// count returns an entry of what a counter really says of a strip.
func (x *truth) count(d *dice.Dice, b api.StripBook) api.AuditEntry {
	kind, a := api.StripKind(d.Roll(4)), 0
	switch kind {
	case api.StripTook:
		a = b.Articles[d.Roll(len(b.Articles))].Dept
	case api.StripMade:
		a = d.Roll(b.Clerks)
	case api.StripSold:
		a = d.Roll(len(b.Articles))
	}
	s := d.Around(x.counted(b, kind, a), 3, 0, api.MaxStripCount)
	return entry(api.AuditStrip, int(kind), a, s.Low, s.High)
}

// counted is what is really counted of a strip.
func (x *truth) counted(b api.StripBook, kind api.StripKind, a int) int {
	n := 0
	for _, s := range x.sold {
		switch {
		case kind == api.StripTook && b.Articles[s.Article].Dept == a:
			n += b.Articles[s.Article].Price
		case kind == api.StripMade && s.Clerk == a, kind == api.StripSold && s.Article == a, kind == api.StripAll:
			n++
		}
	}
	return n
}

// hang returns an entry of a tag with a price that is really written so, some letters of which are read as others, or not at all.
func (x *truth) hang(d *dice.Dice, t *testing.T, h api.TagHouse) (api.AuditEntry, bool) {
	t.Helper()
	known, l := x.house(h)
	n := d.Roll(1000)
	texts, l2 := tag.Writes(known, n, 3+d.Roll(3))
	if l+l2 != api.Fine || len(texts) != 1 {
		t.Fatalf("%+v: %q, bells %d, %d", known, texts, l, l2)
	}
	reads := []byte(texts[0])
	for _, i := range d.Shuffled(len(reads))[:d.Roll(3)] {
		reads[i] = '?'
	}
	for i, c := range reads {
		for _, pair := range h.Alike {
			if at := strings.IndexByte(pair, c); at >= 0 && d.Roll(2) == 0 {
				reads[i] = pair[1-at]
				break
			}
		}
	}
	s := d.Around(n, 50, 0, api.MaxTagPrice)
	return hang(string(reads), s.Low, s.High), true
}

// isHistory tells whether what really happened is a history of a part of a file, of which perhaps more is known than at first.
func (x *truth) isHistory(t *testing.T, b api.AuditBook, part int) (is bool) {
	t.Helper()
	switch part {
	case wheelsPart:
		slips, l := wheels.Histories(b.Wheels)
		is = slips > 0 && l == api.Fine && x.isRead(b.Wheels) && slipped(b.Wheels, x.slips)
	case stripPart:
		is, _ = strip.IsHistory(b.Strip, x.many, x.sold)
	case tagPart:
		_, l := x.house(b.House)
		is = l == api.Fine
	case changePart:
		is, _ = change.IsHistory(b.Drawer, x.drawer, x.order)
	case buildPart:
		is = hasTimes(b.Works, x.times)
	case salesPart:
		written, signed := slices.Clone(x.written), slices.Clone(x.signed)
		for _, s := range b.Day.Slips[len(x.written):] {
			// a fix that was entered later says what the slip amounts to
			o := b.Day
			o.Slips = o.Slips[:len(x.written)]
			written, signed = append(written, x.now(t, o, s.For)), append(signed, true)
		}
		is, _ = sales.IsHistory(b.Day, written, signed)
	case eveningPart:
		is, _ = evening.Agrees(b.Evening, x.takings, x.wrong)
	case stockPart:
		is, _ = stock.IsHistory(b.Stock, x.first, x.moves, x.lies)
	case tourPart:
		is = hasWays(b.Tour, x.ways)
	}
	return is
}

// takers returns the clerks who really took something.
func (x *truth) takers() []int {
	return oracle.Numbers(x.takings, func(y api.EveningTaking) int { return y.Clerk })
}

// holds tells whether what really happened is a history of each part of a file, and each answer is so.
func (x *truth) holds(t *testing.T, b api.AuditBook) {
	t.Helper()
	for part := range manyParts {
		if !x.isHistory(t, b, part) {
			t.Fatalf("%+v: %+v is no history of the part %d", b, x, part)
		}
	}
	const enough = 99
	for _, c := range []struct {
		q     api.AuditAsk
		proof []int
	}{{ask(api.AuditSlips, len(x.slips)/2), x.slips}, {ask(api.AuditHands, len(x.takers())), x.takers()}, {ask(api.AuditBlame, len(x.lies)), x.lies}} {
		yes, _, l := audit.Ask(b, c.q)
		is, l2 := audit.Verify(b, c.q, c.proof)
		if !yes || !is || l+l2 != api.Fine {
			t.Errorf("%+v, %+v: really so is %v, but the answer is %v, and that is a proof: %v, bells %d, %d", b, c.q, c.proof, yes, is, l, l2)
		}
	}
	if yes, proof, l := audit.Ask(b, ask(api.AuditWhole)); l != api.Fine || yes && !slices.EqualFunc(proof, x.sold, func(a int, s api.StripSale) bool { return a == s.Article }) {
		t.Errorf("%+v: %v was sold, not %+v, bell %d", b, proof, x.sold, l)
	}
	if yes, more, l := audit.Ask(b, ask(api.AuditFloat, enough)); yes {
		var all []int
		for kind, n := range more {
			all = append(all, x.drawer[kind]+n)
		}
		if refused, _, l2 := change.Play(b.Drawer, all, x.order); len(refused) > 0 || l+l2 != api.Fine {
			t.Errorf("%+v: with %v more, %v are refused, bells %d, %d", b, more, refused, l, l2)
		}
	}
	if yes, machine, l := audit.Ask(b, ask(api.AuditCheap, 999)); l != api.Fine || yes && total(oracle.Picked(x.times, machine)) > b.Works.Beat {
		t.Errorf("%+v: the machine %v is late, bell %d", b, machine, l)
	}
	_, round, l := audit.Ask(b, ask(api.AuditRound))
	sure, _ := narrowed(b.Tour, x.ways, tour.Time)
	if safe, l2 := tour.Safe(sure, round); !safe || l+l2 != api.Fine {
		t.Errorf("%+v: the round %v is late, bells %d, %d", b, round, l, l2)
	}
}
