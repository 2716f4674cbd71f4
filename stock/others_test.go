package stock_test

import (
	"slices"
	"testing"

	"nosale/api"
	"nosale/build"
	"nosale/change"
	"nosale/dice"
	"nosale/evening"
	"nosale/oracle"
	"nosale/sales"
	"nosale/stock"
	"nosale/strip"
	"nosale/tag"
	"nosale/wheels"
)

// learned is a book of goods to which others tell what they know; what really happened stays a history of it.
type learned struct {
	t    *testing.T
	b    api.StockBook
	real past
}

// is takes over a book in which more is known.
func (x *learned) is(o api.StockBook, l api.Bell, what ...any) {
	x.t.Helper()
	if l != api.Fine {
		x.t.Fatalf("%+v: %v cannot be so, bell %d", x.b, what, l)
	}
	holds(x.t, o, x.real)
	noMore(x.t, x.b, o)
	x.b = o
}

// tell tells how many a move says.
func (x *learned) tell(move int, many api.Span, what ...any) {
	x.t.Helper()
	o, l := stock.Tell(x.b, move, many)
	x.is(o, l, append(what, "the move", move, "is of", many)...)
}

// count counts a good in the end.
func (x *learned) count(good int) {
	x.t.Helper()
	n := endOf(x.b, x.real, good)
	o, l := stock.Note(x.b, count(good, x.b.Days, n, n))
	x.is(o, l, n, "of", good, "are left")
}

// many returns the span of how many can be the ones of a move.
func (x *learned) many(move int) api.Span {
	x.t.Helper()
	list, l := stock.Numbers(x.b, move)
	if l != api.Fine {
		x.t.Fatal(l)
	}
	return to(list[0], list[len(list)-1])
}

// gone returns the span of how many of a good are gone in the end.
func (x *learned) gone(good int) api.Span {
	x.t.Helper()
	first, l := stock.Left(x.b, good, 0)
	last, l2 := stock.Left(x.b, good, x.b.Days)
	if l+l2 != api.Fine {
		x.t.Fatal(l, l2)
	}
	return to(first[0]-last[len(last)-1], first[len(first)-1]-last[0])
}

// leaves tells whether there are fewer histories than another book has.
func (x *learned) leaves(before api.StockBook) bool {
	was, _ := stock.Histories(before)
	is, _ := stock.Histories(x.b)
	return is < was
}

// anyShop returns a book of goods of which there were 20 each, some of which were sold or given; it is not clear how many.
func anyShop(d *dice.Dice, t *testing.T, kinds ...api.StockKind) learned {
	x := learned{t, api.StockBook{Days: 6}, past{}}
	for _, name := range []string{"tea", "rice"} {
		x.b.Goods = append(x.b.Goods, api.StockGood{Name: name, Cost: 1 + d.Roll(9), Pack: 1, First: to(20, 20)})
		x.real.first = append(x.real.first, 20)
	}
	for day := range 1 + d.Roll(5) {
		n := d.Roll(4)
		x.b.Moves = append(x.b.Moves, api.StockMove{Kind: kinds[d.Roll(len(kinds))], Good: d.Roll(2), Day: day + 1, Many: d.Around(n, api.MaxStockWide, 0, 9)})
		x.real.many = append(x.real.many, n)
	}
	return x
}

// times returns a span of which each number is taken so many times.
func times(s api.Span, n int) api.Span { return to(s.Low*n, s.High*n) }

// pieces returns the least and the most pieces that some amounts are the price of.
func pieces(amounts []int, cost int) api.Span {
	return oracle.Span(oracle.Kept(amounts, func(n int) bool { return n%cost == 0 }), func(n int) int { return n / cost })
}

// P0.4, P0.5, P0.6: a slip of what was sold, given or taken back is for the price of so many pieces. What slips tell and what is counted can be so together, and each finds what the other leaves open.
func TestSalesTell(t *testing.T) {
	d := dice.Dice(20)
	found, back := 0, 0
	for range 300 {
		x := anyShop(&d, t, api.StockSold, api.StockGiven)
		before := x.b
		var s api.SalesBook
		var numbers []int
		for i, m := range x.b.Moves {
			kind := []api.SalesKind{api.SalesSold, api.SalesCredit}[d.Roll(2)]
			if m.Kind == api.StockGiven {
				kind = api.SalesGiven
			}
			n := x.real.many[i] * x.b.Goods[m.Good].Cost
			numbers = append(numbers, n)
			s.Slips = append(s.Slips, api.SalesSlip{Kind: kind, Dept: m.Good, For: -1, Amount: d.Around(n, api.MaxSalesWide, 0, api.MaxSalesAmount)})
		}
		for i, m := range x.b.Moves {
			amounts, l := sales.Amounts(s, i)
			if l != api.Fine {
				t.Fatal(l)
			}
			x.tell(i, pieces(amounts, x.b.Goods[m.Good].Cost), "by the slip")
		}
		if x.leaves(before) {
			found++
		}
		x.count(0)
		x.count(1)
		o := s
		for good, g := range x.b.Goods {
			next, l := sales.Note(o, api.SalesSum{Kind: api.SalesDept, A: good, Many: times(x.gone(good), g.Cost), Firm: true})
			if is, l2 := sales.IsHistory(next, numbers, nil); !is || l+l2 != api.Fine {
				t.Fatalf("%+v: %v are gone, but the slips %+v cannot be so, bells %d, %d", x.b, x.gone(good), s, l, l2)
			}
			o = next
		}
		was, _ := sales.Histories(s)
		if is, _ := sales.Histories(o); is < was {
			back++
		}
	}
	if found < 100 || back < 100 {
		t.Errorf("the slips told too little: %d books, and learned too little: %d", found, back)
	}
}

// P0.4, P0.5: what was taken back is on a slip, too, and counts in the sum of its department.
func TestGoodsBack(t *testing.T) {
	b := parse(t, "stock 3 0\ngood tea 5 1 9\nmove sold 0 1 3..5\nmove back 0 2 1..2\ncount 0 3 6\n")
	s, _, l := sales.Parse("sales 0\nslip sold 0 0 -1 20 open\nslip back 0 0 0 5..7 open\n")
	amounts, l2 := sales.Amounts(s, 0)
	o, l3 := stock.Tell(b, 0, pieces(amounts, 5))
	list, l4 := stock.Numbers(o, 1)
	if !slices.Equal(list, []int{1}) || l+l2+l3+l4 != api.Fine {
		t.Fatal(list, l, l2, l3, l4)
	}
	s, l = sales.Tell(s, 1, to(5, 5))
	sum, l2 := sales.Sum(s, api.SalesDept, 0)
	if sum != to(15, 15) || l+l2 != api.Fine {
		t.Error(sum, l, l2)
	}
}

// P0.4, P0.5: each line of a strip is one piece that was sold; what is left tells how many lines there are of an article.
func TestStripTells(t *testing.T) {
	d := dice.Dice(21)
	found, back := 0, 0
	for range 300 {
		x := learned{t, api.StockBook{Days: 1}, past{}}
		s := api.StripBook{Last: 99, First: 1, Digits: 3, Clerks: 1, Articles: []api.StripArticle{{Price: 3}, {Price: 5}}}
		var sold []api.StripSale
		total, pieces := 0, []int{0, 0}
		for range 1 + d.Roll(api.MaxStripEntries) {
			a := d.Roll(2)
			pieces[a]++
			total += s.Articles[a].Price
			sold = append(sold, api.StripSale{Article: a})
			s.Items = append(s.Items, api.StripItem{Number: "??", Amount: []string{"???", "00" + string(rune('0'+s.Articles[a].Price))}[d.Roll(2)], Total: "???", Dept: -1, Clerk: -1})
		}
		for a, name := range []string{"tea", "rice"} {
			x.b.Goods = append(x.b.Goods, api.StockGood{Name: name, Cost: s.Articles[a].Price, Pack: 1, First: to(9, 9)})
			x.b.Moves = append(x.b.Moves, move(api.StockSold, a, 1, 0, 0))
			x.b.Moves[a].Many = d.Around(pieces[a], api.MaxStockWide, 0, 9)
		}
		x.real = past{[]int{9, 9}, pieces, nil}
		before := x.b
		for a := range pieces {
			var lines api.Span
			for item := range s.Items {
				list, l := strip.Articles(s, item)
				if l != api.Fine {
					t.Fatal(l)
				}
				if slices.Equal(list, []int{a}) {
					lines.Low++
				}
				if slices.Contains(list, a) {
					lines.High++
				}
			}
			x.tell(a, lines, "by the lines of the strip")
		}
		if x.leaves(before) {
			found++
		}
		x.count(0)
		o, l := strip.Note(s, api.StripCount{Kind: api.StripSold, A: 0, Many: x.gone(0)})
		if is, l2 := strip.IsHistory(o, nil, sold); !is || l+l2 != api.Fine {
			t.Fatalf("%+v: %v are gone, but the strip %+v cannot be so, bells %d, %d", x.b, x.gone(0), s, l, l2)
		}
		was, _ := strip.Histories(s)
		if is, _ := strip.Histories(o); is < was {
			back++
		}
	}
	if found < 100 || back < 50 {
		t.Errorf("the strip told too little: %d books, and learned too little: %d", found, back)
	}
}

// P0.4, P0.5: the price of what was sold is what was said, and was rung; the wheels and the money know what was sold, and the goods know what was said.
func TestMoneyTells(t *testing.T) {
	d := dice.Dice(22)
	found, back := 0, 0
	for range 300 {
		x := anyShop(&d, t, api.StockSold)
		before := x.b
		w := api.WheelsBook{Wheels: []api.WheelsWheel{{Base: 10}, {Base: 10}, {Base: 10}}, Start: []int{0, 0, 0}}
		rung := 0
		for i, m := range x.b.Moves {
			n := x.real.many[i] * x.b.Goods[m.Good].Cost
			rung += n
			keys, l := wheels.Digits(w, n)
			if l != api.Fine {
				t.Fatal(l)
			}
			w.Rings = append(w.Rings, api.WheelsRing{Keys: keys})
		}
		taken := d.Roll(3)
		e := api.EveningBook{Most: 1, Take: 2, Float: to(50, 50), Clerks: []string{"ann"}, Hours: []api.EveningHour{{Said: to(0, api.MaxEveningMoney), Staff: []int{0}}}, Counts: []api.EveningCount{{After: 0, Money: to(50+rung-taken, 50+rung-taken)}}}
		// what is gone tells what was said, and so what was taken
		x.count(0)
		x.count(1)
		if x.leaves(before) {
			found++
		}
		worth, l := stock.Worth(x.b, 0)
		rest, l2 := stock.Worth(x.b, x.b.Days)
		if l+l2 != api.Fine || worth.Low-rest.High != rung || worth.High-rest.Low != rung {
			t.Fatalf("%+v: worth %v and then %v, but %d was rung", x.b, worth, rest, rung)
		}
		was, l := evening.Loss(e)
		e.Hours[0].Said = to(worth.Low-rest.High, worth.High-rest.Low)
		is, l2 := evening.Loss(e)
		if is != to(taken, taken) || !oracle.IsNarrow(is, was) || l+l2 != api.Fine {
			t.Errorf("%+v: %v was taken, not %d, bells %d, %d", e, is, taken, l, l2)
		}
		// what was rung is the price of what was sold, move by move
		sum, l := wheels.Sum(w)
		if sum != rung || l != api.Fine {
			t.Fatal(sum, rung, l)
		}
		some := x.b
		for i, m := range x.b.Moves {
			n, l := wheels.Amount(w, w.Rings[i].Keys)
			if s := times(x.many(i), x.b.Goods[m.Good].Cost); !oracle.Has(s, n) || l != api.Fine {
				t.Errorf("%+v: %d was rung, but the move %d is of %v", x.b, n, i, s)
			}
			x.tell(i, pieces([]int{n}, x.b.Goods[m.Good].Cost), "by what was rung")
		}
		if n, _ := stock.Histories(x.b); n != 1 {
			t.Errorf("%+v: all was rung, but there are %d histories", x.b, n)
		}
		if x.leaves(some) {
			back++
		}
	}
	if found < 100 || back < 50 {
		t.Errorf("the goods told too little: %d books, and the wheels: %d", found, back)
	}
}

// P0.4, P0.5: of a sale that is refused nothing is gone.
func TestDrawerTells(t *testing.T) {
	d := dice.Dice(23)
	found, back := 0, 0
	for range 300 {
		c := api.ChangeBook{Kinds: []int{10, 5, 2, 1}}
		var first []int
		for range c.Kinds {
			n := d.Roll(2)
			first, c.Drawer = append(first, n), append(c.Drawer, to(0, 1))
		}
		price := 1 + d.Roll(9)
		// one pays with a great coin, the other one with small ones, which can be change for the first one
		for _, paid := range [][]int{{1, 0, 0, 0}, {0, d.Roll(2), 3, 3}} {
			c.Sales = append(c.Sales, api.ChangeSale{Price: price, Paid: paid})
		}
		refused, _, l := change.Play(c, first, d.Shuffled(2))
		if l != api.Fine {
			t.Fatal(l)
		}
		went := 2 - len(refused)
		b := api.StockBook{Days: 1, Goods: []api.StockGood{{Name: "tea", Cost: price, Pack: 1, First: to(5, 5)}}, Moves: []api.StockMove{move(api.StockSold, 0, 1, 0, 2)}}
		x := learned{t, b, past{[]int{5}, []int{went}, nil}}
		var sold api.Span
		for i := range c.Sales {
			sure, l := change.Goes(c, i)
			if l != api.Fine {
				t.Fatal(l)
			}
			if sure == api.Yes {
				sold.Low++
			}
			if sure != api.No {
				sold.High++
			}
		}
		x.tell(0, sold, "by what goes")
		if x.leaves(b) {
			found++
		}
		x.count(0)
		// if all went, or none did, each of them is seen
		many := x.gone(0)
		if many != to(0, 0) && many != to(2, 2) {
			continue
		}
		o := c
		for i := range c.Sales {
			if o, l = change.See(o, i, many.Low > 0); l != api.Fine {
				t.Fatalf("%+v: %v went, bell %d", c, many, l)
			}
		}
		was, _ := change.Histories(c)
		if is, _ := change.Histories(o); is < was {
			back++
		}
	}
	if found < 100 || back < 10 {
		t.Errorf("the drawer told too little: %d books, and learned too little: %d", found, back)
	}
}

// P0.4, P0.5: a good costs what stands on its tag.
func TestTagTells(t *testing.T) {
	h, _, l := tag.Parse("house MAKEPROF?? IT X\nalike EF\ntag KET 0..99999\ntag PXI 550..559\n")
	prices, l2 := tag.Prices(h, 0)
	if !slices.Equal(prices, []int{340, 349, 380, 389}) || l+l2 != api.Fine {
		t.Fatal(prices, l, l2)
	}
	b := parse(t, "stock 2 1\ngood tea 340 1 1\nmove came 0 1 1\n")
	// the goods that were there cost 760 or more: only a price of 380 or 389 is so much for two pieces, and only if both came
	can := oracle.Kept(prices, func(price int) bool {
		b.Goods[0].Cost = price
		worth, l := stock.Worth(b, 2)
		if l != api.Fine || worth != to(price, 2*price) {
			t.Errorf("%+v: worth %v, bell %d", b, worth, l)
		}
		return worth.High >= 760
	})
	h, l = tag.Learn(h, 0, to(can[0], can[len(can)-1]))
	prices, l2 = tag.Prices(h, 0)
	if !slices.Equal(prices, []int{380, 389}) || l+l2 != api.Fine {
		t.Error(prices, l, l2)
	}
	b, l = stock.Note(b, count(0, 2, 2, 2))
	if sure, l2 := stock.False(b, 0); sure != api.No || l+l2 != api.Fine {
		t.Error(sure, l, l2)
	}
}

// P0.4, P0.5: parts are goods: what can be built of those that are there lies between what the least and the most of them are enough for.
func TestBuildTells(t *testing.T) {
	d := dice.Dice(24)
	open := 0
	for range 200 {
		x := learned{t, api.StockBook{Days: 2, Most: 1}, past{}}
		works := api.BuildBook{Beat: 9, Places: 2}
		for i, name := range []string{"cam", "gear"} {
			works.Parts = append(works.Parts, api.BuildPart{Name: name, Time: to(1, 1), Fits: [][]int{{0, 1}, {i}}[d.Roll(2)]})
			n := d.Roll(2)
			x.b.Goods = append(x.b.Goods, api.StockGood{Name: name, Pack: 1, First: to(n, n)})
			x.real.first = append(x.real.first, n)
			came := d.Roll(3)
			x.b.Moves = append(x.b.Moves, move(api.StockCame, i, 1, came, came))
			x.real.many = append(x.real.many, came)
		}
		if lie := d.Roll(3); lie < 2 {
			x.real.lies = []int{lie}
		}
		// builds returns how many machines can be built if so many parts of each kind are there.
		builds := func(many func(list []int, good int) int) int {
			o := works
			o.Parts = slices.Clone(works.Parts)
			for good := range x.b.Goods {
				list, l := stock.Left(x.b, good, 2)
				if l != api.Fine {
					t.Fatal(l)
				}
				o.Parts[good].Stock = many(list, good)
			}
			n, l := build.Builds(o)
			if l != api.Fine {
				t.Fatal(l)
			}
			return n
		}
		least := builds(func(list []int, good int) int { return list[0] })
		most := builds(func(list []int, good int) int { return list[len(list)-1] })
		really := builds(func(list []int, good int) int { return endOf(x.b, x.real, good) })
		if really < least || really > most {
			t.Errorf("%+v: %d can be built, not %d to %d", x.b, really, least, most)
		}
		x.count(0)
		x.count(1)
		sure := builds(func(list []int, good int) int { return list[0] })
		if sure != really {
			t.Errorf("%+v: %d can be built, not %d", x.b, really, sure)
		}
		if least < most {
			open++
		}
	}
	if open < 50 {
		t.Errorf("only %d times it was open what can be built", open)
	}
}

// P0.5: what a book leaves open is found once more is known of it.
func TestWhatIsMissing(t *testing.T) {
	b := parse(t, with("count 1 10 5\n", ""))
	good, left, _ := stock.Ask(b)
	b, l := stock.Note(b, count(good, 10, 5, 5))
	if n, _ := stock.Histories(b); good != 1 || n != left || n != 4 || l != api.Fine {
		t.Errorf("%d: %d histories, %d were to be left, bell %d", good, n, left, l)
	}
	if sure, l := stock.False(b, 3); sure != api.Yes || l != api.Fine {
		t.Errorf("the note 3 is false: %d, bell %d", sure, l)
	}
	good, left, _ = stock.Ask(b)
	b, l = stock.Note(b, count(good, 10, 4, 4))
	if list, _ := stock.Numbers(b, 1); good != 0 || left != 2 || !slices.Equal(list, []int{3}) || l != api.Fine {
		t.Errorf("%d, %d: %v were sold, bell %d", good, left, list, l)
	}
	b, l = stock.Tell(b, 2, to(1, 1))
	first, l2 := stock.Left(b, 1, 0)
	if n, _ := stock.Histories(b); n != 1 || !slices.Equal(first, []int{6}) || l+l2 != api.Fine {
		t.Errorf("%d histories, %v at first, bells %d, %d", n, first, l, l2)
	}
	if good, left, l := stock.Ask(b); good != -1 || left != 1 || l != api.Fine {
		t.Errorf("Ask: %d, %d, bell %d", good, left, l)
	}
}
