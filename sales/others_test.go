package sales_test

import (
	"fmt"
	"slices"
	"testing"

	"nosale/api"
	"nosale/change"
	"nosale/dice"
	"nosale/sales"
	"nosale/strip"
	"nosale/tag"
	"nosale/wheels"
)

// soldDay is a day on which goods were sold for money, and nothing else happened.
type soldDay struct {
	articles []api.StripArticle
	sold     []api.StripSale
}

// anySoldDay returns any such day.
func anySoldDay(d *dice.Dice) soldDay {
	var day soldDay
	for len(day.articles) < 1+d.Roll(api.MaxStripArticles) {
		a := api.StripArticle{Dept: d.Roll(api.MaxSalesDept + 1), Price: 1 + d.Roll(12)}
		if !slices.Contains(day.articles, a) {
			day.articles = append(day.articles, a)
		}
	}
	for range 1 + d.Roll(api.MaxStripEntries) {
		day.sold = append(day.sold, api.StripSale{Article: d.Roll(len(day.articles)), Clerk: d.Roll(api.MaxStripClerks)})
	}
	return day
}

// strip returns the strip of a day, of which only some can be read.
func (day soldDay) strip(d *dice.Dice) api.StripBook {
	b := api.StripBook{Last: 99, First: 1, Digits: 4, Clerks: api.MaxStripClerks, Articles: day.articles}
	read := func(text, blurred string) string {
		if d.Roll(3) == 0 {
			return text
		}
		return blurred
	}
	total := 0
	for _, s := range day.sold {
		a := day.articles[s.Article]
		total += a.Price
		b.Items = append(b.Items, api.StripItem{Number: "??", Amount: read(fmt.Sprintf("%03d", a.Price), "???"), Total: read(fmt.Sprintf("%04d", total), "????"), Dept: -1, Clerk: s.Clerk})
	}
	return b
}

// slips returns the slips of a day, on which it is not clear what was written, and what really was.
func (day soldDay) slips(d *dice.Dice) (api.SalesBook, []int) {
	var b api.SalesBook
	var numbers []int
	for _, s := range day.sold {
		a := day.articles[s.Article]
		numbers = append(numbers, a.Price)
		x := d.Around(a.Price, api.MaxSalesWide, 0, api.MaxSalesAmount)
		b.Slips = append(b.Slips, slip(api.SalesSold, a.Dept, s.Clerk, x.Low, x.High))
	}
	return b, numbers
}

// learned is a book of slips to which others tell what they know; what really was written stays a history of it.
type learned struct {
	t       *testing.T
	b       api.SalesBook
	numbers []int
}

// is takes over a book in which more is known.
func (x *learned) is(o api.SalesBook, l api.Bell, what ...any) {
	x.t.Helper()
	is, l2 := sales.IsHistory(o, x.numbers, nil)
	if l != api.Fine || !is || l2 != api.Fine {
		x.t.Fatalf("%+v: %v cannot be so, bell %d, %v, bell %d", x.b, what, l, is, l2)
	}
	noMore(x.t, x.b, o)
	x.b = o
}

// P0.4, P0.5, P0.6: what the strip tells of departments and of sales is so together with what the slips tell, and each finds from the other what it left open.
func TestStripTells(t *testing.T) {
	d := dice.Dice(18)
	found, back := 0, 0
	for range 250 {
		day := anySoldDay(&d)
		b, numbers := day.slips(&d)
		s := day.strip(&d)
		x := learned{t, b, numbers}
		for _, a := range day.articles {
			took, l := strip.Took(s, a.Dept)
			if l != api.Fine {
				t.Fatalf("%+v: bell %d", s, l)
			}
			if len(x.b.Sums) < api.MaxSalesSums {
				o, l := sales.Note(x.b, api.SalesSum{Kind: api.SalesDept, A: a.Dept, Many: took, Firm: true})
				x.is(o, l, "the department", a.Dept, "took", took)
			}
		}
		for item := range s.Items {
			list, l := strip.Articles(s, item)
			if l != api.Fine {
				t.Fatalf("%+v: bell %d", s, l)
			}
			prices := to(api.MaxSalesAmount, 0)
			for _, a := range list {
				prices = to(min(prices.Low, day.articles[a].Price), max(prices.High, day.articles[a].Price))
			}
			o, l := sales.Tell(x.b, item, prices)
			x.is(o, l, "the sale", item, "at", prices)
		}
		before, _ := sales.Histories(b)
		after, _ := sales.Histories(x.b)
		if after < before {
			found++
		}
		// and the other way round
		next := s
		for _, a := range day.articles {
			if len(next.Counts) == api.MaxStripCounts {
				break
			}
			took, _ := sales.Sum(x.b, api.SalesDept, a.Dept)
			o, l := strip.Note(next, api.StripCount{Kind: api.StripTook, A: a.Dept, Many: took})
			if is, _ := strip.IsHistory(o, nil, day.sold); !is || l != api.Fine {
				t.Fatalf("%+v: what was sold is none with %v of %d, bell %d", s, took, a.Dept, l)
			}
			next = o
		}
		was, _ := strip.Histories(s)
		if is, _ := strip.Histories(next); is < was {
			back++
		}
	}
	if found < 80 || back < 20 {
		t.Errorf("the strip told too little: %d books, and learned too little: %d", found, back)
	}
}

// P0.4, P0.5: what the wheels show is the cash, but for carries that slipped.
func TestWheelsTell(t *testing.T) {
	d := dice.Dice(19)
	found := 0
	for range 200 {
		day := anySoldDay(&d)
		b, numbers := day.slips(&d)
		w := api.WheelsBook{Most: d.Roll(2), Wheels: []api.WheelsWheel{{Base: 10, Kind: api.WheelsDrops}, {Base: 10}, {Base: 10}}, Start: []int{0, 0, 0}}
		for _, n := range numbers {
			keys, l := wheels.Digits(w, n)
			if l != api.Fine {
				t.Fatal(l)
			}
			w.Rings = append(w.Rings, api.WheelsRing{Keys: keys})
		}
		cash, l := wheels.Sum(w)
		if v, l2 := sales.Sum(b, api.SalesCash, 0); cash < v.Low || cash > v.High || l+l2 != api.Fine {
			t.Errorf("%+v: cash is %v, but %d was rung, bells %d, %d", b, v, cash, l, l2)
		}
		// what the wheels show, less an error, is what was rung
		shows, l := wheels.Shows(w, len(w.Rings))
		errs, l2 := wheels.Errors(w)
		if l+l2 != api.Fine {
			t.Fatal(l, l2)
		}
		shown := shows[d.Roll(len(shows))]
		x := learned{t, b, numbers}
		o, l := sales.Note(b, api.SalesSum{Kind: api.SalesCash, Many: to(shown-errs[len(errs)-1], shown-errs[0]), Firm: true})
		x.is(o, l, "the wheels show", shown, "and err by", errs)
		if w.Most == 0 {
			o, l := sales.Note(b, api.SalesSum{Kind: api.SalesCash, Many: to(shown, shown), Firm: true})
			x.is(o, l, "the wheels show", shown)
		}
		before, _ := sales.Histories(b)
		if after, _ := sales.Histories(x.b); after < before {
			found++
		}
	}
	if found < 50 {
		t.Errorf("the wheels told too little: %d books", found)
	}
}

// P0.4, P0.5: the drawer grows by the cash.
func TestDrawerTells(t *testing.T) {
	d := dice.Dice(20)
	found, refusals := 0, 0
	for range 200 {
		day := anySoldDay(&d)
		c := api.ChangeBook{Kinds: []int{10, 5, 2, 1}}
		for range c.Kinds {
			n := d.Roll(3)
			c.Drawer = append(c.Drawer, to(n, n))
		}
		for _, s := range day.sold {
			c.Sales = append(c.Sales, api.ChangeSale{Price: day.articles[s.Article].Price, Paid: []int{2, 0, 0, 0}})
		}
		var first []int
		for _, x := range c.Drawer {
			first = append(first, x.Low)
		}
		refused, last, l := change.Play(c, first, d.Shuffled(len(c.Sales)))
		before, l2 := change.Amount(c, first)
		after, l3 := change.Amount(c, last)
		if l+l2+l3 != api.Fine {
			t.Fatal(l, l2, l3)
		}
		refusals += len(refused)
		// of a sale that was refused there is no slip
		went := soldDay{articles: day.articles}
		for i, s := range day.sold {
			if !slices.Contains(refused, i) {
				went.sold = append(went.sold, s)
			}
		}
		b, numbers := went.slips(&d)
		x := learned{t, b, numbers}
		o, l := sales.Note(b, api.SalesSum{Kind: api.SalesCash, Many: to(after-before, after-before), Firm: true})
		x.is(o, l, "the drawer grew by", after-before)
		was, _ := sales.Histories(b)
		if is, _ := sales.Histories(x.b); is < was {
			found++
		}
	}
	if found < 50 || refusals < 20 {
		t.Errorf("the drawer told too little: %d books, %d refused", found, refusals)
	}
}

// P0.5: a slip that is hard to read, and a tag that is, tell the price together.
func TestTagTells(t *testing.T) {
	h, _, l := tag.Parse("house MAKEPROF?? IT X\nalike EF\ntag KET 0..99999\ntag PXI 550..559\n")
	if l != api.Fine {
		t.Fatal(l)
	}
	b := parse(t, "sales 0\nslip sold 1 0 -1 379..381 open\nslip fix 0 0 0 389 open\n")
	prices, l := tag.Prices(h, 0)
	amounts, l2 := sales.Amounts(b, 0)
	if l+l2 != api.Fine || !slices.Equal(prices, []int{340, 349, 380, 389}) || !slices.Equal(amounts, []int{379, 380, 381, 389}) {
		t.Fatal(prices, amounts, l, l2)
	}
	// the tag can be told what is on the slip, and the slip what is on the tag
	h, l = tag.Learn(h, 0, to(amounts[0], amounts[len(amounts)-1]))
	if prices, _ := tag.Prices(h, 0); l != api.Fine || !slices.Equal(prices, []int{380, 389}) {
		t.Fatal(prices, l)
	}
	b, l = sales.Sign(b, 1, false)
	b, l2 = sales.Tell(b, 0, to(380, 389))
	amounts, l3 := sales.Amounts(b, 0)
	if l+l2+l3 != api.Fine || !slices.Equal(amounts, []int{380, 381}) {
		t.Fatal(amounts, l, l2, l3)
	}
	h, l = tag.Learn(h, 0, to(380, 381))
	if is, l2 := tag.Settled(h); !is || l+l2 != api.Fine {
		t.Errorf("the house is settled: %v, bells %d, %d", is, l, l2)
	}
	b, l = sales.Tell(b, 0, to(380, 380))
	if n, _ := sales.Histories(b); n != 1 || l != api.Fine {
		t.Errorf("%d histories, bell %d", n, l)
	}
}

// P0.5: what a book leaves open is found once more is known of it.
func TestWhatIsMissing(t *testing.T) {
	b := parse(t, textS)
	slip, left, _ := sales.Ask(b)
	o, l := sales.Tell(b, slip, to(21, 21))
	if n, _ := sales.Histories(o); n != left || l != api.Fine {
		t.Errorf("%d histories, %d were to be left, bell %d", n, left, l)
	}
	slip, left, _ = sales.Ask(o)
	o, l = sales.Note(o, sum(api.SalesDept, 1, 26, 26))
	if n, _ := sales.Histories(o); slip != 2 || n != left || n != 1 || l != api.Fine {
		t.Errorf("slip %d: %d histories, %d were to be left, bell %d", slip, n, left, l)
	}
	if list, _ := sales.Amounts(o, 2); !slices.Equal(list, []int{5}) {
		t.Errorf("%v was taken back", list)
	}
}
