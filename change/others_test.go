package change_test

import (
	"fmt"
	"slices"
	"testing"

	"nosale/api"
	"nosale/change"
	"nosale/dice"
	"nosale/oracle"
	"nosale/strip"
	"nosale/tag"
	"nosale/wheels"
)

// sellsAll tells whether a strip can have an article for each sale.
func sellsAll(b api.ChangeBook) bool {
	for _, s := range b.Sales {
		if s.Price == 0 {
			return false
		}
	}
	return len(b.Sales) > 0 && len(b.Sales) <= api.MaxStripArticles
}

// wentIn returns the sales that went, in the order in which they came.
func wentIn(p past) []int {
	return slices.DeleteFunc(slices.Clone(p.order), func(i int) bool { return !p.went(i) })
}

// stripOf returns the strip of the sales that went, of which only some of the totals can be read; the article of each sale has its index.
func stripOf(d *dice.Dice, b api.ChangeBook, p past) api.StripBook {
	s := api.StripBook{Last: 99, First: 1, Digits: 4, Clerks: 1}
	for i, sale := range b.Sales {
		s.Articles = append(s.Articles, api.StripArticle{Dept: i, Price: sale.Price})
	}
	total := 0
	for _, i := range wentIn(p) {
		total += b.Sales[i].Price
		e := api.StripItem{Number: "??", Amount: "???", Total: "????", Dept: -1, Clerk: -1}
		if d.Roll(3) > 0 {
			e.Total = fmt.Sprintf("%04d", total)
		}
		s.Items = append(s.Items, e)
		// no sale is printed twice
		s.Counts = append(s.Counts, api.StripCount{Kind: api.StripSold, A: i, Many: to(1, 1)})
	}
	s.Counts = s.Counts[:d.Roll(len(s.Counts)+1)]
	return s
}

// P0.4, P0.5: what the strip tells of sales that went is so together with what the drawer tells, which finds from it what it left open.
func TestStripTells(t *testing.T) {
	d := dice.Dice(18)
	found, ordered := 0, 0
	for range 1000 {
		b, real := anyBook(&d, false)
		if !sellsAll(b) {
			continue
		}
		s := stripOf(&d, b, real)
		o := b
		learn := func(next api.ChangeBook, l api.Bell, what ...any) {
			t.Helper()
			if l != api.Fine {
				t.Fatalf("%+v: the strip %+v tells %v, bell %d", b, s, what, l)
			}
			o = next
		}
		for i, sale := range b.Sales {
			took, l := strip.Took(s, i)
			if l != api.Fine {
				t.Fatalf("%+v: bell %d", s, l)
			}
			if went := took.Low > 0; b.Sales[i].Seen == api.Open && (went || took.High == 0) {
				if sure, _ := change.Goes(o, i); sure == api.Open {
					found++
				}
				next, l := change.See(o, i, went)
				learn(next, l, "of the sale", i, "at", sale.Price, "that it went", went)
			}
		}
		var came []int
		for item := range s.Items {
			list, l := strip.Articles(s, item)
			if l != api.Fine {
				t.Fatalf("%+v: bell %d", s, l)
			}
			if len(list) != 1 {
				continue
			}
			for _, before := range came {
				if before != list[0] && len(o.Firsts) < api.MaxChangeFirsts {
					ordered++
					next, l := change.Know(o, first(before, list[0]))
					learn(next, l, "the order", before, list[0])
				}
			}
			came = append(came, list[0])
		}
		if is, l := change.IsHistory(o, real.first, real.order); !is || l != api.Fine {
			t.Errorf("%+v: with the strip %+v what happened is no history, bell %d", b, s, l)
		}
		noMore(t, b, o)
	}
	if found < 20 || ordered < 100 {
		t.Errorf("the strip told too little: %d sales, %d orders", found, ordered)
	}
}

// P0.4, P0.5: the wheels show what the drawer grows by; whatever that tells of a sale, the drawer can be told.
func TestWheelsTell(t *testing.T) {
	d := dice.Dice(19)
	found := 0
	for range 600 {
		b, real := anyBook(&d, false)
		ten := api.WheelsWheel{Base: 10}
		rung := api.WheelsBook{Wheels: slices.Repeat([]api.WheelsWheel{ten}, 4), Start: make([]int, 4)}
		for _, i := range wentIn(real) {
			keys, l := wheels.Digits(rung, b.Sales[i].Price)
			if l != api.Fine {
				t.Fatal(l)
			}
			rung.Rings = append(rung.Rings, api.WheelsRing{Keys: keys})
		}
		shown, l := wheels.Shows(rung, len(rung.Rings))
		before, l2 := change.Amount(b, real.first)
		after, l3 := change.Amount(b, real.last)
		if l+l2+l3 != api.Fine || !slices.Equal(shown, []int{after - before}) {
			t.Fatalf("%+v, %v: the wheels show %v, but the drawer grew from %d to %d", b, real, shown, before, after)
		}
		for i, s := range b.Sales {
			sure, _ := change.Goes(b, i)
			told := toldBySum(b, shown[0], i)
			if told == api.Open || s.Seen != api.Open {
				continue
			}
			if sure != api.Open && sure != told {
				t.Errorf("%+v: the drawer tells %d of the sale %d, the wheels %d", b, sure, i, told)
			}
			o, l := change.See(b, i, told == api.Yes)
			if is, _ := change.IsHistory(o, real.first, real.order); !is || l != api.Fine {
				t.Errorf("%+v: the sale %d cannot be seen as the wheels tell, bell %d", b, i, l)
			}
			if sure == api.Open {
				found++
			}
		}
	}
	if found < 20 {
		t.Errorf("the wheels told too little: %d sales", found)
	}
}

// toldBySum tells how sure it is that a sale went if the prices of all that went have a sum.
func toldBySum(b api.ChangeBook, total, sale int) api.Sure {
	var all []past
	for _, some := range oracle.Subsets(len(b.Sales)) {
		n := 0
		for _, i := range some {
			n += b.Sales[i].Price
		}
		if n == total {
			all = append(all, past{refused: some})
		}
	}
	return oracle.Sure(all, func(p past) bool { return !p.went(sale) })
}

// P0.5: coins that were counted settle a price that the tag leaves open.
func TestDrawerTellsPrice(t *testing.T) {
	h, _, l := tag.Parse("house MAKEPROF?? IT X\nalike EF\ntag KET 0..99999\ntag PXI 550..559\n")
	if is, _ := tag.Settled(h); is || l != api.Fine {
		t.Fatalf("the house is settled: %v, bell %d", is, l)
	}
	prices, l := tag.Prices(h, 0)
	if len(prices) < 2 || l != api.Fine {
		t.Fatal(prices, l)
	}
	var can []int
	for _, price := range prices {
		b := api.ChangeBook{
			Kinds:  []int{200, 50, 10, 1},
			Drawer: []api.Span{to(0, 0), to(1, 1), to(3, 3), to(3, 3)},
			Sales:  []api.ChangeSale{{Price: price, Paid: []int{2, 0, 0, 0}, Seen: api.Yes}},
			Counts: []api.ChangeCount{count(1, 0, 0), count(3, 3, 3)},
		}
		n, l := change.Histories(b)
		if l != api.Fine {
			t.Fatal(l)
		}
		if n > 0 {
			can = append(can, price)
		}
	}
	if !slices.Equal(can, []int{340}) {
		t.Fatalf("the drawer lets %v", can)
	}
	o, l := tag.Learn(h, 0, to(can[0], can[0]))
	if is, l2 := tag.Settled(o); !is || l+l2 != api.Fine {
		t.Errorf("settled: %v, bells %d, %d", is, l, l2)
	}
}

// P0.5: what a drawer leaves open is found once more is known of it.
func TestWhatIsMissing(t *testing.T) {
	b := parse(t, textD)
	kind, left, _ := change.Ask(b)
	o, l := change.Note(b, count(kind, 1, 1))
	if n, _ := change.Histories(o); n != left || l != api.Fine {
		t.Errorf("%d histories, %d were to be left, bell %d", n, left, l)
	}
	if list, _ := change.Had(o, 1); !slices.Equal(list, []int{1}) {
		t.Errorf("there were %v of the kind 1", list)
	}
	kind, left, _ = change.Ask(o)
	o, l = change.Note(o, count(kind, 2, 2))
	if n, _ := change.Histories(o); kind != 2 || n != left || l != api.Fine {
		t.Errorf("kind %d: %d histories, %d were to be left, bell %d", kind, n, left, l)
	}
	for i, want := range []api.Sure{api.No, api.Yes, api.Yes} {
		if sure, _ := change.Goes(o, i); sure != want {
			t.Errorf("Goes %d: %d", i, sure)
		}
	}
}
