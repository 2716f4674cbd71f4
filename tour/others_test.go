package tour_test

import (
	"fmt"
	"slices"
	"testing"

	"nosale/api"
	"nosale/build"
	"nosale/change"
	"nosale/dice"
	"nosale/evening"
	"nosale/oracle"
	"nosale/sales"
	"nosale/stock"
	"nosale/strip"
	"nosale/tag"
	"nosale/tour"
	"nosale/wheels"
)

// learned is a book of a traveller to whom others tell what they know; what is really so stays a history of it.
type learned struct {
	t    *testing.T
	b    api.TourBook
	real past
}

// is takes over a book in which more is known.
func (x *learned) is(o api.TourBook, l api.Bell, what ...any) {
	x.t.Helper()
	if l != api.Fine || !agrees(o, x.real) {
		x.t.Fatalf("%+v: %v cannot be so, bell %d", x.b, what, l)
	}
	holds(x.t, o, x.real)
	noMore(x.t, x.b, o)
	x.b = o
}

// can returns the times that a way can have.
func (x *learned) can(way int) []int {
	s := x.b.Ways[way].Time
	return oracle.Kept(oracle.UpTo(s.Low, s.High), func(n int) bool {
		_, l := tour.Time(x.b, way, to(n, n))
		return l == api.Fine
	})
}

// oneOf tells that the time of a way is one of some numbers.
func (x *learned) oneOf(way int, list []int, what ...any) {
	x.t.Helper()
	left := oracle.Kept(x.can(way), func(n int) bool { return slices.Contains(list, n) })
	if len(left) == 0 {
		x.t.Fatalf("%+v: %v: the way %d is none of %v", x.b, what, way, list)
	}
	o, l := tour.Time(x.b, way, hull(left))
	x.is(o, l, append(what, "the way", way, "takes", left)...)
}

// note tells that a trip took a time of a span.
func (x *learned) note(took api.Span, ways ...int) {
	x.t.Helper()
	o, l := tour.Note(x.b, api.TourNote{Ways: ways, Took: took})
	x.is(o, l, ways, "took", took)
}

// leaves tells whether there are fewer histories than another book has.
func (x *learned) leaves(before api.TourBook) bool {
	was, _ := tour.Histories(before)
	is, _ := tour.Histories(x.b)
	return is < was
}

// hull returns the span from the least to the greatest of some numbers.
func hull(list []int) api.Span { return to(slices.Min(list), slices.Max(list)) }

// times returns a span of which each number is taken so many times.
func times(s api.Span, n int) api.Span { return to(s.Low*n, s.High*n) }

// parts returns the numbers of which some amounts are so many times as much.
func parts(amounts []int, n int) []int {
	var list []int
	for _, amount := range amounts {
		if amount%n == 0 {
			list = append(list, amount/n)
		}
	}
	return list
}

// anyTraveller returns a book of three places, three ways and some jobs; the times of the ways are from low to high, and not all are known.
func anyTraveller(d *dice.Dice, t *testing.T, low, high int) learned {
	b := api.TourBook{Bag: 9, Kinds: 2, Places: []string{"works", "ayr", "bute"}, Ways: []api.TourWay{way(0, 1, 0, 0), way(1, 2, 0, 0), way(0, 2, 0, 0)}}
	var ways, works []int
	for i := range b.Ways {
		n := low + d.Roll(high-low+1)
		ways = append(ways, n)
		b.Ways[i].Time = d.Around(n, api.MaxTourWide, low, high)
	}
	for range 1 + d.Roll(2) {
		j, work := anyJob(d, b)
		b.Jobs, works = append(b.Jobs, j), append(works, work)
	}
	return learned{t, b, pastOf(b, ways, works)}
}

// P0.4, P0.5, P0.6: the traveller is paid for each hour on a way, and writes a slip of it. What slips tell and what is noted can be so together, and each finds what the other leaves open.
func TestSalesTell(t *testing.T) {
	d := dice.Dice(20)
	found, back := 0, 0
	for range 200 {
		x := anyTraveller(&d, t, 1, 9)
		before, pay := x.b, 2+d.Roll(2)
		var s api.SalesBook
		var written []int
		for _, n := range x.real.ways {
			written = append(written, n*pay)
			s.Slips = append(s.Slips, api.SalesSlip{For: -1, Amount: d.Around(n*pay, api.MaxSalesWide, 0, api.MaxSalesAmount)})
		}
		for i := range s.Slips {
			amounts, l := sales.Amounts(s, i)
			if l != api.Fine {
				t.Fatal(l)
			}
			x.oneOf(i, parts(amounts, pay), "by the slip")
		}
		all, l := sales.Sum(s, api.SalesDept, 0)
		if l != api.Fine {
			t.Fatal(l)
		}
		x.note(to((all.Low+pay-1)/pay, all.High/pay), 0, 1, 2)
		if x.leaves(before) {
			found++
		}
		// the traveller noted a trip, too
		x.note(to(x.real.ways[0]+x.real.ways[1], x.real.ways[0]+x.real.ways[1]), 1, 0)
		o := s
		for i := range s.Slips {
			if o, l = sales.Tell(o, i, times(hull(x.can(i)), pay)); l != api.Fine {
				t.Fatalf("%+v: %v, but the slips %+v cannot be so, bell %d", x.b, x.can(i), s, l)
			}
		}
		if is, l := sales.IsHistory(o, written, nil); !is || l != api.Fine {
			t.Fatalf("%+v: %v is no history, bell %d", o, written, l)
		}
		was, _ := sales.Histories(s)
		if is, _ := sales.Histories(o); is < was {
			back++
		}
	}
	if found < 50 || back < 100 {
		t.Errorf("the slips told too little: %d books, and learned too little: %d", found, back)
	}
}

// P0.4, P0.5: trips are rung on a counter, and add up to what its wheels show, but for a carry that slipped.
func TestWheelsTell(t *testing.T) {
	d := dice.Dice(21)
	found, slipped := 0, 0
	for range 100 {
		x := anyTraveller(&d, t, 5, 9)
		before := x.b
		w := api.WheelsBook{Most: 1, Wheels: []api.WheelsWheel{{Base: 10, Kind: api.WheelsDrops}, {Base: 10}, {Base: 10}}, Start: []int{0, 0, 0}}
		for _, n := range x.real.ways {
			keys, l := wheels.Digits(w, n)
			if l != api.Fine {
				t.Fatal(l)
			}
			w.Rings = append(w.Rings, api.WheelsRing{Keys: keys})
		}
		sum, l := wheels.Sum(w)
		shows, l2 := wheels.Shows(w, len(w.Rings))
		if !slices.Contains(shows, sum) || l+l2 != api.Fine {
			t.Fatal(shows, sum, l, l2)
		}
		// what the wheels show, and what the ways take together, tells how much slipped
		shown := shows[d.Roll(len(shows))]
		x.note(to(sum, sum), 0, 1, 2)
		digits, l := wheels.Digits(w, shown)
		w, l2 = wheels.Read(w, len(w.Rings)-1, digits)
		errors, l3 := wheels.Errors(w)
		if !slices.Equal(errors, []int{shown - sum}) || l+l2+l3 != api.Fine {
			t.Errorf("%+v: %v slipped, not %d, bells %d, %d, %d", w, errors, shown-sum, l, l2, l3)
		}
		if shown != sum {
			slipped++
		}
		// each trip that was rung tells a time
		for i, ring := range w.Rings {
			n, l := wheels.Amount(w, ring.Keys)
			if l != api.Fine {
				t.Fatal(l)
			}
			x.oneOf(i, []int{n}, "by the counter")
		}
		if far, l := tour.Far(x.b, 0, 2); far.Low != far.High || l != api.Fine {
			t.Errorf("%+v: all was rung, but to bute it is %v, bell %d", x.b, far, l)
		}
		if x.leaves(before) {
			found++
		}
	}
	if found < 50 || slipped < 20 {
		t.Errorf("the counter told too little: %d books, and %d times a carry slipped", found, slipped)
	}
}

// P0.4, P0.5, P0.6: a machine is mended when it was turned once. What its parts tell tells the work, and how long the job took tells of the parts.
func TestBuildTells(t *testing.T) {
	d := dice.Dice(22)
	found, back := 0, 0
	for range 200 {
		x := anyTraveller(&d, t, 1, 9)
		m := api.BuildBook{Beat: 9, Places: 2}
		var ticks []int
		for i, name := range []string{"cam", "gear"} {
			n := 1 + d.Roll(3)
			ticks = append(ticks, n)
			m.Parts = append(m.Parts, api.BuildPart{Name: name, Time: d.Around(n, 2, 0, 9), Fits: []int{i}})
		}
		x.real.works[0] = ticks[0] + ticks[1]
		x.b.Jobs[0].Work = d.Around(x.real.works[0], api.MaxTourWide, 0, 9)
		turns, l := build.Turns(m, []int{0, 1})
		if l != api.Fine {
			t.Fatal(l)
		}
		before, o := x.b, clone(x.b)
		work := &o.Jobs[0].Work
		*work = to(max(work.Low, turns.Low), min(work.High, turns.High))
		x.is(o, tour.CheckBook(o), "by the parts")
		if x.leaves(before) {
			found++
		}
		works, l := tour.Works(x.b, 0)
		if l != api.Fine {
			t.Fatal(l)
		}
		tried, l := build.Try(m, api.BuildTrial{Parts: []int{0, 1}, Took: hull(works)})
		for part, n := range ticks {
			if list, l2 := build.Times(tried, part); !slices.Contains(list, n) || l+l2 != api.Fine {
				t.Fatalf("%+v: the work is %v, but %+v cannot be so, bells %d, %d", x.b, works, m, l, l2)
			}
		}
		was, _ := build.Histories(m)
		if is, _ := build.Histories(tried); is < was {
			back++
		}
	}
	if found < 20 || back < 50 {
		t.Errorf("the parts told too little: %d books, and learned too little: %d", found, back)
	}
}

// P0.4, P0.5: the parts of a round are goods that are given out. What is left tells which rounds can have been gone, and so when the traveller can be home; which rounds there are tells how many were given.
func TestStockTells(t *testing.T) {
	d := dice.Dice(23)
	found, back := 0, 0
	for range 150 {
		b, real := anyBook(&d, false)
		rounds := oracle.Kept(roundsOf(b), func(round []int) bool { fits, _ := tour.Fits(b, round); return fits })
		round := rounds[d.Roll(len(rounds))]
		load, l := tour.Load(b, round)
		if l != api.Fine {
			t.Fatal(l)
		}
		s, first := api.StockBook{Days: 1}, []int{}
		for kind, n := range load {
			s.Goods = append(s.Goods, api.StockGood{Name: fmt.Sprintf("part%d", kind), Pack: 1, First: to(20, 20)})
			s.Moves = append(s.Moves, api.StockMove{Kind: api.StockGiven, Good: kind, Day: 1, Many: d.Around(n, api.MaxStockWide, 0, 20)})
			first = append(first, 20)
		}
		if len(load) == 0 {
			continue
		}
		// gone are the rounds that can have been gone.
		gone := func() [][]int {
			return oracle.Kept(rounds, func(round []int) bool {
				load, _ := tour.Load(b, round)
				for kind, n := range load {
					if list, _ := stock.Numbers(s, kind); !slices.Contains(list, n) {
						return false
					}
				}
				return true
			})
		}
		some := gone()
		before, _ := stock.Histories(s)
		for kind := range load {
			can := oracle.Span(some, func(round []int) int { return loadOf(b, round)[kind] })
			if s, l = stock.Tell(s, kind, can); l != api.Fine {
				t.Fatalf("%+v: %v are given for %v, but that cannot be so, bell %d", b, can, some, l)
			}
		}
		if is, l := stock.IsHistory(s, first, load, nil); !is || l != api.Fine {
			t.Fatalf("%+v: %v were given, bell %d", s, load, l)
		}
		if after, _ := stock.Histories(s); after < before {
			back++
		}
		for kind, n := range load {
			if s, l = stock.Note(s, api.StockCount{Good: kind, Day: 1, Many: to(20-n, 20-n)}); l != api.Fine {
				t.Fatal(l)
			}
		}
		left := gone()
		if !slices.ContainsFunc(left, func(r []int) bool { return slices.Equal(r, round) }) || len(left) > len(some) {
			t.Errorf("%+v: the round was %v, not one of %v, nor of %v", b, round, left, some)
		}
		home := func(some [][]int, end func(s api.Span) int) api.Span {
			return oracle.Span(some, func(round []int) int { s, _ := tour.Home(b, round); return end(s) })
		}
		earliest := home(left, func(s api.Span) int { return s.Low }).Low
		latest := home(left, func(s api.Span) int { return s.High }).High
		if !oracle.Has(to(earliest, latest), homeOf(b, real, round)) {
			t.Errorf("%+v: home at %d, not at %d to %d", b, homeOf(b, real, round), earliest, latest)
		}
		if len(left) < len(some) {
			found++
		}
	}
	if found < 30 || back < 30 {
		t.Errorf("the goods told too little: %d books, and learned too little: %d", found, back)
	}
}

// P0.4, P0.5: each line of a strip is the fare for a way, a penny for an hour; the strip knows the fares, and the traveller their sum.
func TestStripTells(t *testing.T) {
	d := dice.Dice(24)
	found, back := 0, 0
	for range 150 {
		x := anyTraveller(&d, t, 2, 4)
		before := x.b
		s := api.StripBook{Last: 99, First: 1, Digits: 3, Clerks: 1, Articles: []api.StripArticle{{Price: 2}, {Price: 3}, {Price: 4}}}
		var sold []api.StripSale
		total := 0
		for _, n := range x.real.ways {
			total += n
			sold = append(sold, api.StripSale{Article: n - 2})
			item := api.StripItem{Number: "??", Amount: "???", Total: "???", Dept: -1, Clerk: -1}
			if d.Roll(3) == 0 {
				item.Total = fmt.Sprintf("0%02d", total)
			}
			s.Items = append(s.Items, item)
		}
		for i := range s.Items {
			articles, l := strip.Articles(s, i)
			if l != api.Fine {
				t.Fatal(l)
			}
			var prices []int
			for _, a := range articles {
				prices = append(prices, s.Articles[a].Price)
			}
			x.oneOf(i, prices, "by the fare")
		}
		sums, l := strip.Took(s, 0)
		if l != api.Fine {
			t.Fatal(l)
		}
		x.note(sums, 2, 1, 0)
		if x.leaves(before) {
			found++
		}
		// what the traveller knows of the ways is known of the fares
		var sum api.Span
		for i := range s.Items {
			can := hull(x.can(i))
			sum = to(sum.Low+can.Low, sum.High+can.High)
		}
		o, l := strip.Note(s, api.StripCount{Kind: api.StripTook, Many: sum})
		if is, l2 := strip.IsHistory(o, nil, sold); !is || l+l2 != api.Fine {
			t.Fatalf("%+v: %v together, but the strip %+v cannot be so, bells %d, %d", x.b, sum, s, l, l2)
		}
		was, _ := strip.Histories(s)
		if is, _ := strip.Histories(o); is < was {
			back++
		}
	}
	if found < 40 || back < 40 {
		t.Errorf("the strip told too little: %d books, and learned too little: %d", found, back)
	}
}

// P0.4, P0.5: milestones tell the times of ways in letters of the house.
func TestTagTells(t *testing.T) {
	h, _, l := tag.Parse("house MAKEPROF?? IT X\nalike EF\ntag AE 0..99\ntag MT 0..99\n")
	ayr, l2 := tag.Prices(h, 0)
	bute, l3 := tag.Prices(h, 1)
	if show(ayr, bute) != "[[24 28] [10 19]]" || l+l2+l3 != api.Fine {
		t.Fatal(ayr, bute, l, l2, l3)
	}
	b := parse(t, "tour 0 0\nplace works\nplace ayr\nplace bute\nway 0 1 24..25\nway 0 2 18..19\nnote 0+1 42..43\n")
	x := learned{t, b, pastOf(b, []int{24, 19}, nil)}
	x.oneOf(0, ayr, "by the milestone")
	x.oneOf(1, bute, "by the milestone")
	if n, l := tour.Histories(x.b); n != 1 || l != api.Fine {
		t.Errorf("%+v: %d histories, bell %d", x.b, n, l)
	}
	// whoever knows the way to bute knows the letter T, and so the letter I
	far, l := tour.Far(x.b, 0, 2)
	h, l2 = tag.Learn(h, 1, far)
	if digits, l3 := tag.Digits(h, "I"); far != to(19, 19) || !slices.Equal(digits, []int{0}) || l+l2+l3 != api.Fine {
		t.Error(far, digits, l, l2, l3)
	}
}

// P0.4, P0.5: the fare for a way is its time in pence; whether there was change for it tells of both.
func TestDrawerTells(t *testing.T) {
	d := dice.Dice(25)
	found, back := 0, 0
	for range 200 {
		x := anyTraveller(&d, t, 1, 9)
		before := x.b
		var first []int
		var drawer []api.Span
		for range 3 {
			n := d.Roll(3)
			first, drawer = append(first, n), append(drawer, d.Around(n, api.MaxChangeWide, 0, 2))
		}
		// fare returns the drawer if a way takes so long.
		fare := func(time int) api.ChangeBook {
			return api.ChangeBook{Kinds: []int{5, 2, 1}, Drawer: drawer, Sales: []api.ChangeSale{{Price: time, Paid: []int{2, 0, 0}}}}
		}
		refused, _, l := change.Play(fare(x.real.ways[0]), first, []int{0})
		if l != api.Fine {
			t.Fatal(l)
		}
		// seen returns the drawer if a way takes so long, and the sale is seen to go, or not.
		seen := func(time int) (api.ChangeBook, api.Bell) { return change.See(fare(time), 0, len(refused) == 0) }
		was, is := 0, 0
		for _, n := range x.can(0) {
			many, _ := change.Histories(fare(n))
			was += many
		}
		x.oneOf(0, oracle.Kept(x.can(0), func(n int) bool { _, l := seen(n); return l == api.Fine }), "by the change")
		if x.leaves(before) {
			found++
		}
		for _, n := range x.can(0) {
			o, _ := seen(n)
			many, _ := change.Histories(o)
			is += many
		}
		o, l := seen(x.real.ways[0])
		if history, l2 := change.IsHistory(o, first, []int{0}); !history || is > was || l+l2 != api.Fine {
			t.Errorf("%+v: the way takes %d, but the drawer %+v cannot be so, bells %d, %d", x.b, x.real.ways[0], o, l, l2)
		}
		if is < was {
			back++
		}
	}
	if found < 20 || back < 50 {
		t.Errorf("the drawer told too little: %d books, and learned too little: %d", found, back)
	}
}

// lastOf returns the last moment of an hour of the evening.
func lastOf(hour int) int { return 5*hour + 4 }

// P0.4, P0.5: ann travels, and is on duty once she is home. What she did then tells when she was home; when she can be home tells what she cannot have done.
func TestEveningTells(t *testing.T) {
	d := dice.Dice(26)
	found, back := 0, 0
	for range 1200 {
		time := 1 + d.Roll(6)
		b := api.TourBook{Places: []string{"works", "ayr"}, Ways: []api.TourWay{{B: 1, Time: d.Around(time, api.MaxTourWide, 1, 9)}}, Jobs: []api.TourJob{job(1, 1, 1, 200)}}
		x := learned{t, b, pastOf(b, []int{time}, []int{1})}
		home := homeOf(b, x.real, []int{0})
		e := api.EveningBook{Most: 1, Take: 1, Float: to(9, 9), Clerks: []string{"ann", "bob"}}
		who, when := d.Roll(2), d.Roll(3)
		if who == 0 && home > lastOf(when) {
			who = 1
		}
		for hour := range 3 {
			staff := []int{0}
			if hour == when && who == 1 || d.Roll(3) > 0 {
				staff = []int{0, 1}
			}
			e.Hours = append(e.Hours, api.EveningHour{Staff: staff})
			money := 9
			if hour >= when {
				money = 8
			}
			e.Counts = append(e.Counts, api.EveningCount{After: hour, Money: to(money, money)})
		}
		// who is on the way takes nothing
		span, l := tour.Home(x.b, []int{0})
		if l != api.Fine {
			t.Fatal(l)
		}
		before, _ := evening.Took(e, 0)
		for hour := range e.Hours {
			if span.Low > lastOf(hour) {
				if e, l = evening.Clear(e, hour, 0); l != api.Fine {
					t.Fatalf("%+v: home at %v, but %+v cannot be so, bell %d", x.b, span, e, l)
				}
			}
		}
		took, l := evening.Took(e, 0)
		if !oracle.IsSo(took, who == 0) || before != api.Open && took != before || l != api.Fine {
			t.Errorf("%+v: ann took something: %d, before %d, bell %d", e, took, before, l)
		}
		if took == api.No && before == api.Open {
			found++
		}
		if took != api.Yes {
			continue
		}
		// who took something then was home by then: there and back is what is left without the work
		was := x.b
		x.note(to(0, lastOf(when)-1), 0, 0)
		now, l := tour.Home(x.b, []int{0})
		if now.High > lastOf(when) || l != api.Fine {
			t.Errorf("%+v: home at %v, but ann took something by %d, bell %d", x.b, now, lastOf(when), l)
		}
		if x.leaves(was) {
			back++
		}
	}
	if found < 30 || back < 5 {
		t.Errorf("the traveller told too little: %d books, and learned too little: %d", found, back)
	}
}

// P0.5: what a book leaves open is found once more is known of it.
func TestWhatIsMissing(t *testing.T) {
	b := parse(t, "tour 3 1\nplace works\nplace ayr\nplace bute\nway 0 1 2..3\nway 1 2 3..4\nway 0 2 6..7\njob 2 1 7 1\njob 1 1 20 1\n")
	if late, l := tour.Late(b, []int{0}, 0); late != api.Open || l != api.Fine {
		t.Errorf("the job 0 is late: %d, bell %d", late, l)
	}
	way, left, _ := tour.Ask(b)
	b, l := tour.Time(b, way, to(2, 2))
	if n, _ := tour.Histories(b); way != 0 || n != left || n != 4 || l != api.Fine {
		t.Errorf("%d: %d histories, %d were to be left, bell %d", way, n, left, l)
	}
	b, l = tour.Note(b, note(8, 8, 0, 1, 1))
	far, l2 := tour.Far(b, 0, 2)
	safe, l3 := tour.Safe(b, []int{0})
	if far != to(5, 5) || !safe || l+l2+l3 != api.Fine {
		t.Errorf("to bute it is %v, safe %v, bells %d, %d, %d", far, safe, l, l2, l3)
	}
	// that way is longer, and still to be measured
	way, left, _ = tour.Ask(b)
	b, l = tour.Time(b, way, to(7, 7))
	if n, _ := tour.Histories(b); way != 2 || left != 1 || n != 1 || l != api.Fine {
		t.Errorf("%d, %d: %d histories, bell %d", way, left, n, l)
	}
	if best, home, l := tour.Best(b); !slices.Equal(best, []int{0, 1}) || home != to(12, 12) || l != api.Fine {
		t.Errorf("Best: %v, %v, bell %d", best, home, l)
	}
}
