package evening_test

import (
	"fmt"
	"slices"
	"testing"

	"nosale/api"
	"nosale/build"
	"nosale/change"
	"nosale/dice"
	"nosale/evening"
	"nosale/oracle"
	"nosale/sales"
	"nosale/strip"
	"nosale/tag"
	"nosale/wheels"
)

// shop is an evening of one hour, what really happened in it, and how much money there really was at first, was said, and was counted.
type shop struct {
	b                    api.EveningBook
	real                 past
	float, said, counted int
}

// anyShop returns an evening in which so much was said, but none knows yet how much.
func anyShop(d *dice.Dice, said int) shop {
	x := shop{float: 30 + d.Roll(20), said: said}
	x.b = api.EveningBook{Most: 1 + d.Roll(2), Take: 1 + d.Roll(api.MaxEveningTake), Float: to(x.float, x.float), Clerks: []string{"ann", "bob"}}
	x.b.Hours = []api.EveningHour{{Said: to(0, api.MaxEveningMoney), Staff: []int{0, 1}}}
	x.real = anyPast(d, x.b)
	x.count()
	return x
}

// count counts what is in the drawer.
func (x *shop) count() {
	x.counted = x.float + x.said - x.real.lost(x.b, 0)
	x.b.Counts = []api.EveningCount{count(0, x.counted, x.counted)}
}

// learn tells the evening what was said, and tells whether it found something by that. What really happened stays a history.
func (x *shop) learn(t *testing.T, said api.Span, by string) bool {
	t.Helper()
	o := clone(x.b)
	now := o.Hours[0].Said
	o.Hours[0].Said = to(max(now.Low, said.Low), min(now.High, said.High))
	if s := o.Hours[0].Said; x.said < s.Low || x.said > s.High {
		t.Fatalf("%d was said, but %s is %v", x.said, by, said)
	}
	holds(t, o, x.real)
	noMore(t, x.b, o, itself)
	was, _ := evening.Histories(x.b)
	is, _ := evening.Histories(o)
	x.b = o
	return is < was
}

// couldBe returns what the evening tells to have been said, by what was counted and by what can be lost.
func (x *shop) couldBe(t *testing.T) api.Span {
	t.Helper()
	loss, l := evening.Loss(x.b)
	if l != api.Fine {
		t.Fatal(l)
	}
	s := to(x.counted-x.float+loss.Low, x.counted-x.float+loss.High)
	if x.said < s.Low || x.said > s.High {
		t.Errorf("%+v: %d was said, but it could be %v", x.b, x.said, s)
	}
	return s
}

// register is a machine of which one carry can slip.
func register(kind api.WheelsKind) api.WheelsBook {
	return api.WheelsBook{Most: 1, Wheels: []api.WheelsWheel{{Base: 3, Kind: kind}, {Base: 20}, {Base: 20}}, Start: []int{0, 0, 0}}
}

// rung returns a machine on which some amounts were rung, what it shows in the end, and by how much that is too much.
func rung(t *testing.T, d *dice.Dice, kind api.WheelsKind) (b api.WheelsBook, shown, wrong int) {
	t.Helper()
	b = register(kind)
	digits, slipped := b.Start, false
	for range 1 + d.Roll(4) {
		keys, l := wheels.Digits(b, d.Roll(12))
		_, carries, l2 := wheels.Ring(b, digits, keys)
		var slips []int
		if !slipped && slices.Contains(carries, 0) && d.Roll(3) == 0 {
			slips, slipped = []int{0}, true
		}
		after, l3 := wheels.Slide(b, digits, keys, slips)
		if l+l2+l3 != api.Fine {
			t.Fatal(l, l2, l3)
		}
		b.Rings, digits = append(b.Rings, api.WheelsRing{Keys: keys}), after
	}
	shown, l := wheels.Amount(b, digits)
	sum, l2 := wheels.Sum(b)
	if l+l2 != api.Fine {
		t.Fatal(l, l2)
	}
	return b, shown, shown - sum
}

// P0.4, P0.5, P0.6: a carry that slips makes the register say too much, or too little. What the wheels tell of that is so together with what the evening tells, and each settles what the other leaves open.
func TestWheelsTell(t *testing.T) {
	d := dice.Dice(16)
	found, back := 0, 0
	for i := range 800 {
		w, shown, wrong := rung(t, &d, []api.WheelsKind{api.WheelsDrops, api.WheelsDoubles}[i%2])
		errs, l := wheels.Errors(w)
		if l != api.Fine || !slices.Contains(errs, wrong) {
			t.Fatalf("%+v: errors %v, not %d, bell %d", w, errs, wrong, l)
		}
		x := anyShop(&d, shown)
		x.b.Slips = 1
		x.b.Hours[0].Said = to(shown, shown)
		for _, e := range errs {
			if e != 0 {
				x.b.Wheels = append(x.b.Wheels, api.EveningSlip{Error: e})
			}
			if e != 0 && e == wrong {
				x.real.slips = []int{len(x.b.Wheels) - 1}
			}
		}
		x.count()
		holds(t, x.b, x.real)
		// if the evening tells that nothing can have slipped, the wheels are as good as tight
		none := true
		for i := range x.b.Wheels {
			sure, _ := evening.Slipped(x.b, i)
			none = none && sure == api.No
		}
		if tight, l := wheels.Tight(w, 0); none {
			was, _ := wheels.Histories(w)
			is, _ := wheels.Histories(tight)
			if wrong != 0 || is < 1 || l != api.Fine {
				t.Errorf("%+v: nothing slipped, but the wheels %+v erred by %d, bell %d", x.b, w, wrong, l)
			}
			if is < was {
				back++
			}
		}
		// once they are read, the wheels tell it
		digits, l := wheels.Digits(w, shown)
		w, l2 := wheels.Read(w, len(w.Rings)-1, digits)
		errs, l3 := wheels.Errors(w)
		if !slices.Equal(errs, []int{wrong}) || l+l2+l3 != api.Fine {
			t.Fatalf("%+v: errors %v, not %d, bells %d, %d, %d", w, errs, wrong, l, l2, l3)
		}
		was, _ := evening.Histories(x.b)
		for i := len(x.b.Wheels) - 1; i >= 0; i-- {
			if !slices.Contains(errs, x.b.Wheels[i].Error) {
				o, l := evening.Mend(x.b, i)
				if l != api.Fine {
					t.Fatalf("%+v: the slip %d cannot be mended, bell %d", x.b, i, l)
				}
				x.b = o
			}
		}
		x.real.slips = oracle.Indexes(len(x.b.Wheels))
		holds(t, x.b, x.real)
		if is, _ := evening.Histories(x.b); is < was {
			found++
		}
	}
	if found < 50 || back < 20 {
		t.Errorf("the wheels told too little: %d books, and learned too little: %d", found, back)
	}
}

// P0.4, P0.5: what the slips of the day say of the cash is what was said; what was counted tells which slips were misread.
func TestSalesTell(t *testing.T) {
	d := dice.Dice(17)
	found, back := 0, 0
	for range 300 {
		var b api.SalesBook
		var numbers []int
		cash := 0
		for range 1 + d.Roll(3) {
			n := d.Roll(20)
			cash += n
			numbers = append(numbers, n)
			low := max(0, n-d.Roll(api.MaxSalesWide))
			b.Slips = append(b.Slips, api.SalesSlip{For: -1, Amount: to(low, max(n, low+d.Roll(api.MaxSalesWide)))})
		}
		x := anyShop(&d, cash)
		s, l := sales.Sum(b, api.SalesCash, 0)
		if l != api.Fine {
			t.Fatal(l)
		}
		could := x.couldBe(t)
		if x.learn(t, s, "the cash") {
			found++
		}
		o, l := sales.Note(b, api.SalesSum{Kind: api.SalesCash, Many: could, Firm: true})
		if is, l2 := sales.IsHistory(o, numbers, nil); !is || l+l2 != api.Fine {
			t.Errorf("%+v: the cash was %d, but not with %v, bells %d, %d", b, cash, could, l, l2)
		}
		was, _ := sales.Histories(b)
		if is, _ := sales.Histories(o); is < was {
			back++
		}
		x.couldBe(t)
	}
	if found < 50 || back < 50 {
		t.Errorf("the slips told too little: %d books, and learned too little: %d", found, back)
	}
}

// P0.4, P0.5: the last total of a strip that begins with 0 is what was said; the total that can be read tells what was taken.
func TestStripTells(t *testing.T) {
	d := dice.Dice(18)
	found := 0
	for range 300 {
		s := api.StripBook{Last: 99, First: 1, Digits: 3, Clerks: 1, Articles: []api.StripArticle{{Price: 3}, {Price: 5}, {Price: 6}}}
		var sold []api.StripSale
		total := 0
		for range 1 + d.Roll(3) {
			sale := api.StripSale{Article: d.Roll(3)}
			sold, total = append(sold, sale), total+s.Articles[sale.Article].Price
			e := api.StripItem{Number: "??", Amount: "???", Total: "???", Dept: -1, Clerk: -1}
			if d.Roll(3) == 0 {
				e.Total = fmt.Sprintf("%03d", total)
			}
			s.Items = append(s.Items, e)
		}
		x := anyShop(&d, total)
		totals, l := strip.Totals(s)
		if l != api.Fine {
			t.Fatal(l)
		}
		could := x.couldBe(t)
		if x.learn(t, to(totals[0], totals[len(totals)-1]), "the strip") {
			found++
		}
		// and the other way round: all that was sold is what the one department took
		o, l := strip.Note(s, api.StripCount{Kind: api.StripTook, Many: could})
		if is, l2 := strip.IsHistory(o, nil, sold); !is || l+l2 != api.Fine {
			t.Errorf("%+v: %d was sold, but not with %v, bells %d, %d", s, total, could, l, l2)
		}
	}
	if found < 20 {
		t.Errorf("the strip told too little: %d books", found)
	}
}

// P0.4, P0.5: the drawer grows by the prices of the sales that go; whatever else is missing was taken.
func TestDrawerTells(t *testing.T) {
	d := dice.Dice(19)
	found, refusals := 0, 0
	for range 200 {
		c := api.ChangeBook{Kinds: []int{10, 5, 2, 1}}
		var first []int
		for range c.Kinds {
			n := d.Roll(3)
			first, c.Drawer = append(first, n), append(c.Drawer, to(n, n))
		}
		for range 1 + d.Roll(3) {
			c.Sales = append(c.Sales, api.ChangeSale{Price: 1 + d.Roll(12), Paid: []int{2, 0, 0, 0}})
		}
		refused, last, l := change.Play(c, first, d.Shuffled(len(c.Sales)))
		before, l2 := change.Amount(c, first)
		after, l3 := change.Amount(c, last)
		if l+l2+l3 != api.Fine {
			t.Fatal(l, l2, l3)
		}
		refusals += len(refused)
		x := anyShop(&d, after-before)
		x.learn(t, wentFor(t, c), "what goes")
		for sale := range c.Sales {
			if c, l = change.See(c, sale, !slices.Contains(refused, sale)); l != api.Fine {
				t.Fatalf("%+v: sale %d, refused %v, bell %d", c, sale, refused, l)
			}
			if x.learn(t, wentFor(t, c), "what was seen") {
				found++
			}
		}
		// all is known now but what was taken, and that is what is missing
		if s, l := evening.Loss(x.b); s != to(x.real.loss(), x.real.loss()) || l != api.Fine {
			t.Errorf("%+v, %v: Loss is %v, bell %d", x.b, x.real, s, l)
		}
	}
	if found < 20 || refusals < 20 {
		t.Errorf("the drawer told too little: %d books, %d refused", found, refusals)
	}
}

// wentFor returns the span of the prices of the sales that go.
func wentFor(t *testing.T, c api.ChangeBook) api.Span {
	t.Helper()
	var s api.Span
	for i, sale := range c.Sales {
		sure, l := change.Goes(c, i)
		if l != api.Fine {
			t.Fatal(l)
		}
		if sure == api.Yes {
			s.Low += sale.Price
		}
		if sure != api.No {
			s.High += sale.Price
		}
	}
	return s
}

// P0.5: what a tag leaves open, the evening finds; and the other way round.
func TestTagTells(t *testing.T) {
	h, _, l := tag.Parse("house MAKEPROF?? IT X\nalike EF\ntag E 0..99\n")
	prices, l2 := tag.Prices(h, 0)
	if !slices.Equal(prices, []int{4, 8}) || l+l2 != api.Fine {
		t.Fatal(prices, l, l2)
	}
	// it was sold once: if it was dear, ann took the rest
	b := parse(t, "evening 1 4 0 10\nclerk ann\nhour 4..8 0\ncount 0 14\n")
	if sure, l := evening.Took(b, 0); sure != api.Open || l != api.Fine {
		t.Errorf("took: %d, bell %d", sure, l)
	}
	for price, want := range map[int]api.Sure{4: api.No, 8: api.Yes} {
		_, l := tag.Learn(h, 0, to(price, price))
		o := clone(b)
		o.Hours[0].Said = to(price, price)
		if sure, l2 := evening.Took(o, 0); sure != want || l+l2 != api.Fine {
			t.Errorf("for %d: took: %d, bells %d, %d", price, sure, l, l2)
		}
	}
	// if ann took nothing, nothing is missing, so that it was cheap
	o, l := evening.Clear(b, 0, 0)
	loss, l2 := evening.Loss(o)
	h, l3 := tag.Learn(h, 0, to(14-10+loss.Low, 14-10+loss.High))
	if prices, l4 := tag.Prices(h, 0); !slices.Equal(prices, []int{4}) || l+l2+l3+l4 != api.Fine {
		t.Errorf("%v, bells %d, %d, %d, %d", prices, l, l2, l3, l4)
	}
}

// P0.4, P0.5: a carry slips if the machine is late; with one that is safe the money is missing.
func TestBuildTells(t *testing.T) {
	works, _, l := build.Parse("build 8 3\npart cam 4 3 2..3 0+1+2\npart gear 3 3 2 1+2\npart pawl 5 1 1..4 0+2\napart 1 1\ntrial 2+1+2 6..8\n")
	if l != api.Fine {
		t.Fatal(l)
	}
	b := parse(t, with("177", "178"))
	late, l := build.Late(works, []int{0, 0, 0})
	if slipped, l2 := evening.Slipped(b, 0); late != api.Open || slipped != api.Open || l+l2 != api.Fine {
		t.Errorf("late: %d, slipped: %d, bells %d, %d", late, slipped, l, l2)
	}
	machine, _, l := build.Cheapest(works)
	late, l2 := build.Late(works, machine)
	o, l3 := evening.Mend(b, 0)
	if late != api.No || l+l2+l3 != api.Fine {
		t.Fatalf("late: %d, bells %d, %d, %d", late, l, l2, l3)
	}
	noMore(t, b, o, func(slip int) int { return slip - 1 })
	explained, l := evening.Explained(o)
	loss, l2 := evening.Loss(o)
	if got := show(explained, loss, l, l2); got != show(false, to(2, 3), api.Fine, api.Fine) {
		t.Error(got)
	}
}

// P0.5: what a book leaves open is found once more is known of it.
func TestWhatIsMissing(t *testing.T) {
	b := parse(t, textE)
	hour, clerk, left, _ := evening.Ask(b)
	b, l := evening.Clear(b, hour, clerk)
	if n, _ := evening.Histories(b); hour != 1 || clerk != 0 || n != left || l != api.Fine {
		t.Errorf("%d, %d: %d histories, %d were to be left, bell %d", hour, clerk, n, left, l)
	}
	hour, clerk, left, _ = evening.Ask(b)
	if hour != 1 || clerk != 1 || left != 1 {
		t.Errorf("%d, %d, %d: once it is known what bob took all is known", hour, clerk, left)
	}
	b, l = evening.Mend(b, 0)
	b.Hours[1].Said = to(31, 31)
	n, _ := evening.Histories(b)
	sums, _ := evening.Sums(b, 1)
	list, l2 := evening.Fewest(b)
	if got := show(n, sums, list, l, l2); got != show(1, to(4, 4), takings(taking(1, 1, 4)), api.Fine, api.Fine) {
		t.Error(got)
	}
	if hour, clerk, left, l := evening.Ask(b); show(hour, clerk, left, l) != "[-1 -1 1 0]" {
		t.Errorf("Ask: %d, %d, %d, bell %d", hour, clerk, left, l)
	}
}
