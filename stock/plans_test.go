package stock_test

import (
	"math"
	"slices"
	"testing"

	"nosale/api"
	"nosale/dice"
	"nosale/oracle"
	"nosale/stock"
)

// P8.2: how many of a good were lost on some days.
func TestLost(t *testing.T) {
	for _, x := range []struct {
		text           string
		good, from, to int
		want           api.Span
		l              api.Bell
	}{
		{textT, 1, 1, 10, to(0, 1), api.Fine}, {textT, 1, 4, 4, to(0, 1), api.Fine}, {textT, 1, 1, 4, to(0, 1), api.Fine}, {textT, 1, 1, 3, to(0, 0), api.Fine}, {textT, 1, 5, 10, to(0, 0), api.Fine}, {textT, 0, 1, 10, to(0, 0), api.Fine},
		// what was given or sold was not lost, and what was lost of another good neither
		{textKinds, 0, 1, 20, to(0, 2), api.Fine}, {textKinds, 0, 2, 2, to(0, 2), api.Fine}, {textKinds, 0, 9, 20, to(0, 0), api.Fine}, {textKinds, 1, 1, 20, to(0, 0), api.Fine}, {textAll, 0, 1, 99, to(0, 2), api.Fine}, {textBare, 0, 1, 1, to(0, 0), api.Fine},
		// several losses, and a count that says more
		{"stock 9 0\ngood a 1 1 9\nmove lost 0 2 1..2\nmove lost 0 2 0..1\nmove lost 0 9 0..2\n", 0, 1, 9, to(1, 5), api.Fine}, {"stock 9 0\ngood a 1 1 9\nmove lost 0 2 1..2\nmove lost 0 2 0..1\nmove lost 0 9 0..2\ncount 0 8 7\n", 0, 1, 9, to(2, 4), api.Fine}, {"stock 9 0\ngood a 1 1 9\nmove lost 0 2 1..2\nmove lost 0 2 0..1\nmove lost 0 9 0..2\ncount 0 8 7\n", 0, 2, 2, to(2, 2), api.Fine},
		{textT, 2, 0, 10, to(0, 0), api.Missing}, {textT, -1, 1, 10, to(0, 0), api.Missing}, {textT, 1, 0, 10, to(0, 0), api.Bound}, {textT, 1, 1, 11, to(0, 0), api.Bound}, {textT, 1, 5, 4, to(0, 0), api.Bound}, {textT, 1, 11, 11, to(0, 0), api.Bound}, {textT, 1, -1, -1, to(0, 0), api.Bound}, {textT, 1, math.MinInt, math.MaxInt, to(0, 0), api.Bound}, {textT, 1, math.MaxInt, math.MinInt, to(0, 0), api.Bound},
		{textOdd, 1, 1, 10, to(0, 0), api.Odds}, {textOdd, 1, 0, 10, to(0, 0), api.Bound}, {textOdd, 2, 1, 10, to(0, 0), api.Missing},
	} {
		if s, l := stock.Lost(parse(t, x.text), x.good, x.from, x.to); s != x.want || l != x.l {
			t.Errorf("%q: Lost %d, %d, %d: %v, bell %d, want %v, %d", x.text, x.good, x.from, x.to, s, l, x.want, x.l)
		}
	}
}

// P8.2: what all goods cost together that are there at the end of a day.
func TestWorth(t *testing.T) {
	for _, x := range []struct {
		text string
		day  int
		want api.Span
		l    api.Bell
	}{
		{textT, 10, to(30, 35), api.Fine}, {textT, 0, to(25, 27), api.Fine}, {textT, 2, to(45, 47), api.Fine}, {textT, 3, to(30, 37), api.Fine}, {textT, 4, to(30, 35), api.Fine}, {textKinds, 20, to(72, 78), api.Fine}, {textKinds, 0, to(30, 30), api.Fine}, {textBare, 1, to(0, 0), api.Fine}, {textAll, 0, to(97*999+50, 98*999+50), api.Fine},
		// goods together, not each by itself: if the dear one was lost the cheap one was not
		{"stock 1 1\ngood a 9 1 0\ngood b 4 1 0\nmove came 0 1 1\nmove came 1 1 1\n", 1, to(4, 13), api.Fine}, {"stock 1 2\ngood a 9 1 0\ngood b 4 1 0\nmove came 0 1 1\nmove came 1 1 1\n", 1, to(0, 13), api.Fine},
		{textT, 11, to(0, 0), api.Bound}, {textT, -1, to(0, 0), api.Bound}, {textT, math.MaxInt, to(0, 0), api.Bound}, {textOdd, 10, to(0, 0), api.Odds}, {textOdd, 11, to(0, 0), api.Bound},
	} {
		if s, l := stock.Worth(parse(t, x.text), x.day); s != x.want || l != x.l {
			t.Errorf("%q: Worth %d: %v, bell %d, want %v, %d", x.text, x.day, s, l, x.want, x.l)
		}
	}
}

// P8.2: for how many whole days a stock lasts.
func TestLasts(t *testing.T) {
	for _, x := range []struct {
		text       string
		good, rate int
		want       api.Span
		l          api.Bell
	}{
		{textT, 0, 2, to(2, 2), api.Fine}, {textT, 0, 1, to(4, 5), api.Fine}, {textT, 0, 4, to(1, 1), api.Fine}, {textT, 0, 5, to(0, 1), api.Fine}, {textT, 0, 6, to(0, 0), api.Fine}, {textT, 1, 99, to(0, 0), api.Fine}, {textT, 1, 5, to(1, 1), api.Fine}, {textBare, 0, 1, to(0, 0), api.Fine}, {textKinds, 1, 2, to(0, 3), api.Fine}, {textAll, 1, 1, to(99, 99+2), api.Fine},
		{textT, 0, 0, to(0, 0), api.Bound}, {textT, 0, 100, to(0, 0), api.Bound}, {textT, 0, -1, to(0, 0), api.Bound}, {textT, 0, math.MinInt, to(0, 0), api.Bound}, {textT, 0, math.MaxInt, to(0, 0), api.Bound}, {textT, 2, 0, to(0, 0), api.Missing}, {textT, -1, 1, to(0, 0), api.Missing}, {textOdd, 0, 1, to(0, 0), api.Odds}, {textOdd, 0, 0, to(0, 0), api.Bound}, {textOdd, 9, 0, to(0, 0), api.Missing},
	} {
		if s, l := stock.Lasts(parse(t, x.text), x.good, x.rate); s != x.want || l != x.l {
			t.Errorf("%q: Lasts %d, %d: %v, bell %d, want %v, %d", x.text, x.good, x.rate, s, l, x.want, x.l)
		}
	}
}

// P8.2: the fewest packs with which nothing runs out, and what they cost.
func TestBuy(t *testing.T) {
	for _, x := range []struct {
		text  string
		rates []int
		days  int
		packs []int
		cost  int
		l     api.Bell
	}{
		{textT, []int{2, 3}, 4, []int{1, 1}, 40, api.Fine}, {textT, []int{2, 1}, 2, []int{0, 0}, 0, api.Fine}, {textT, []int{3, 5}, 3, []int{2, 1}, 60, api.Fine}, {textT, []int{0, 0}, 99, []int{0, 0}, 0, api.Fine}, {textT, []int{99, 99}, 0, []int{0, 0}, 0, api.Fine}, {textT, []int{4, 5}, 1, []int{0, 0}, 0, api.Fine}, {textT, []int{5, 5}, 1, []int{1, 0}, 20, api.Fine}, {textT, []int{8, 15}, 1, []int{1, 1}, 40, api.Fine}, {textT, []int{9, 16}, 1, []int{2, 2}, 80, api.Fine}, {textT, []int{0, 99}, 99, []int{0, 980}, 19600, api.Fine},
		{textBare, []int{1}, 3, []int{3}, 0, api.Fine}, {textBare, []int{99}, 99, []int{9801}, 0, api.Fine}, {textAll, []int{99, 99, 99}, 99, []int{486, 9702, 1089}, 486*20*999 + 1089*9, api.Fine},
		{textT, nil, 4, nil, 0, api.Count}, {textT, []int{2}, 4, nil, 0, api.Count}, {textT, []int{2, 3, 4}, 4, nil, 0, api.Count}, {textT, []int{-1}, 100, nil, 0, api.Count}, {textT, []int{2, 100}, 4, nil, 0, api.Bound}, {textT, []int{-1, 3}, 4, nil, 0, api.Bound}, {textT, []int{math.MaxInt, 3}, 4, nil, 0, api.Bound}, {textT, []int{2, 3}, 100, nil, 0, api.Bound}, {textT, []int{2, 3}, -1, nil, 0, api.Bound}, {textT, []int{2, 3}, math.MaxInt, nil, 0, api.Bound}, {textOdd, []int{2, 3}, 4, nil, 0, api.Odds}, {textOdd, []int{2}, 4, nil, 0, api.Count}, {textOdd, []int{2, 3}, 100, nil, 0, api.Bound}, {textOdd, []int{2, 100}, 4, nil, 0, api.Bound}, {textOdd, []int{0, 0}, 0, nil, 0, api.Odds},
	} {
		packs, cost, l := stock.Buy(parse(t, x.text), x.rates, x.days)
		if !slices.Equal(packs, x.packs) || cost != x.cost || l != x.l {
			t.Errorf("%q: Buy %v, %d: %v, %d, bell %d, want %v, %d, %d", x.text, x.rates, x.days, packs, cost, l, x.packs, x.cost, x.l)
		}
	}
}

// anyRates returns how many of each good are to be sold each day.
func anyRates(d *dice.Dice, b api.StockBook) []int {
	var rates []int
	for range b.Goods {
		rates = append(rates, d.Roll(6))
	}
	return rates
}

// P8.2: plans for any book are those of all that can have happened.
func TestPlansLikeAllThatCanHaveHappened(t *testing.T) {
	d := dice.Dice(3)
	for i := range 1000 {
		b, _ := anyBook(&d, 5, i%2 == 0)
		all := pasts(b)
		if len(all) == 0 {
			continue
		}
		like := func(name string, s api.Span, l api.Bell, number func(p past) int) {
			t.Helper()
			if want := oracle.Span(all, number); s != want || l != api.Fine {
				t.Errorf("%+v: %s: %v, bell %d, want %v", b, name, s, l, want)
			}
		}
		for day := range b.Days + 1 {
			s, l := stock.Worth(b, day)
			like("Worth", s, l, func(p past) int { return worthOf(b, p, day) })
		}
		for good := range b.Goods {
			from := 1 + d.Roll(b.Days)
			to := from + d.Roll(b.Days-from+1)
			s, l := stock.Lost(b, good, from, to)
			like("Lost", s, l, func(p past) int { return lostOf(b, p, good, from, to) })
			rate := 1 + d.Roll(6)
			s, l = stock.Lasts(b, good, rate)
			like("Lasts", s, l, func(p past) int { return lastsOf(endOf(b, p, good), rate) })
		}
		rates, days := anyRates(&d, b), d.Roll(7)
		packs, cost, l := stock.Buy(b, rates, days)
		if packs2, cost2 := buyOf(b, all, rates, days); !slices.Equal(packs, packs2) || cost != cost2 || l != api.Fine {
			t.Errorf("%+v: Buy %v, %d: %v, %d, bell %d, want %v, %d", b, rates, days, packs, cost, l, packs2, cost2)
		}
	}
}

// P8.8: with what Buy says nothing runs out, whatever happened, and with a pack less it can.
func TestNothingRunsOut(t *testing.T) {
	d := dice.Dice(4)
	bought := 0
	for range 500 {
		b, real := anyBook(&d, api.MaxStockMoves, false)
		rates, days := anyRates(&d, b), d.Roll(7)
		packs, cost, l := stock.Buy(b, rates, days)
		if l != api.Fine {
			t.Fatalf("%+v: bell %d", b, l)
		}
		for good, g := range b.Goods {
			cost -= packs[good] * g.Pack * g.Cost
			if runsOut(endOf(b, real, good)+packs[good]*g.Pack, rates[good], days) {
				t.Errorf("%+v: with %v packs the good %d runs out", b, packs, good)
			}
			left, _ := stock.Left(b, good, b.Days)
			less := left[0] + (packs[good]-1)*g.Pack
			if packs[good] > 0 && !runsOut(less, rates[good], days) {
				t.Errorf("%+v: with a pack less than %v the good %d does not run out", b, packs, good)
			}
			bought += packs[good]
		}
		if cost != 0 {
			t.Errorf("%+v: %v packs are said to cost %d more", b, packs, cost)
		}
	}
	if bought < 500 {
		t.Errorf("only %d packs were bought", bought)
	}
}

// P8.8: what lasts so many days lasts no longer if more is sold, and no pack is bought for the days that it lasts.
func TestLastsNoLonger(t *testing.T) {
	d := dice.Dice(5)
	for range 300 {
		b, _ := anyBook(&d, api.MaxStockMoves, false)
		for good := range b.Goods {
			before := to(math.MaxInt, math.MaxInt)
			for rate := 1; rate < 9; rate++ {
				s, l := stock.Lasts(b, good, rate)
				if s.Low > before.Low || s.High > before.High || l != api.Fine {
					t.Errorf("%+v: %d lasts %v at %d a day, bell %d, but %v at less", b, good, s, rate, l, before)
				}
				before = s
				rates := make([]int, len(b.Goods))
				rates[good] = rate
				enough, _, _ := stock.Buy(b, rates, s.Low)
				more, _, _ := stock.Buy(b, rates, s.Low+1)
				if enough[good] != 0 || more[good] == 0 {
					t.Errorf("%+v: %d lasts %v at %d a day, but %v packs are bought for so many days, and %v for one more", b, good, s, rate, enough, more)
				}
			}
		}
	}
}
