package stock_test

import (
	"slices"
	"testing"

	"nosale/api"
	"nosale/dice"
	"nosale/oracle"
	"nosale/promises"
	"nosale/stock"
)

// noMore tells whether a book of which more is known has no history that the other one did not have, makes nothing possible that was not, and takes back nothing that was sure.
func noMore(t *testing.T, b, o api.StockBook) {
	t.Helper()
	before, _ := stock.Histories(b)
	after, l := stock.Histories(o)
	if after > before || after == 0 || l != api.Fine {
		t.Errorf("%+v: %d histories, %+v: %d, bell %d", b, before, o, after, l)
	}
	for good := range b.Goods {
		was, _ := stock.Left(b, good, b.Days)
		is, _ := stock.Left(o, good, b.Days)
		lost, _ := stock.Lost(b, good, 1, b.Days)
		now, _ := stock.Lost(o, good, 1, b.Days)
		if !oracle.Within(is, was) || !oracle.IsNarrow(now, lost) {
			t.Errorf("%+v: Left %d is %v, Lost %v, %+v: %v, %v", b, good, was, lost, o, is, now)
		}
	}
	for move := range b.Moves {
		was, _ := stock.Numbers(b, move)
		is, _ := stock.Numbers(o, move)
		sure, _ := stock.False(b, move)
		now, _ := stock.False(o, move)
		if !oracle.Within(is, was) || sure != api.Open && sure != now {
			t.Errorf("%+v: Numbers %d is %v, False %d, %+v: %v, %d", b, move, was, sure, o, is, now)
		}
	}
	for day := range b.Days + 1 {
		was, _ := stock.Worth(b, day)
		if is, _ := stock.Worth(o, day); !oracle.IsNarrow(is, was) {
			t.Errorf("%+v: Worth %d is %v, %+v: %v", b, day, was, o, is)
		}
	}
	fewer, _ := stock.Blame(b)
	if more, _ := stock.Blame(o); len(more) < len(fewer) {
		t.Errorf("%+v: Blame is %v, %+v: %v", b, fewer, o, more)
	}
}

// news tells whether a function returned a book with just these histories, or Odds if there are none.
func news(t *testing.T, name string, b, o api.StockBook, l api.Bell, all []past) {
	t.Helper()
	if len(all) == 0 {
		if l != api.Odds {
			t.Errorf("%+v: %s: bell %d, but nothing is left", b, name, l)
		}
		return
	}
	if n, _ := stock.Histories(o); n != len(all) || l != api.Fine {
		t.Errorf("%+v: %s: %+v, bell %d, want %d histories", b, name, o, l, len(all))
		return
	}
	for _, p := range all {
		if is, l := stock.IsHistory(o, p.first, p.many, p.lies); !is || l != api.Fine {
			t.Errorf("%+v: %s: %+v is none, bell %d", b, name, p, l)
		}
	}
	noMore(t, b, o)
}

// P8.10, P0.6: what is told and counted leaves just the histories in which it is so.
func TestKnowingMore(t *testing.T) {
	d := dice.Dice(16)
	fewer, odds := 0, 0
	for i := range 800 {
		b, real := anyBook(&d, 4, i%2 == 0)
		all := pasts(b)
		for move, m := range b.Moves {
			x := d.Around(m.Many.Low+d.Roll(3), 3, 0, api.MaxStockMany)
			left := oracle.Kept(all, func(p past) bool { return oracle.Has(x, p.many[move]) })
			o, l := stock.Tell(b, move, x)
			news(t, "told", b, o, l, left)
		}
		if len(b.Counts) == api.MaxStockCounts {
			continue
		}
		c := anyCount(&d, b, real)
		c.Many = to(c.Many.Low+d.Roll(2), c.Many.High+1)
		left := oracle.Kept(all, func(p past) bool { return oracle.Has(c.Many, stockOf(b, p, c.Good, c.Day)) })
		o, l := stock.Note(b, c)
		news(t, "counted", b, o, l, left)
		if l != api.Fine {
			odds++
		} else if len(left) < len(all) {
			fewer++
		}
	}
	if fewer < 50 || odds < 50 {
		t.Errorf("counts took histories away %d times, all of them %d times", fewer, odds)
	}
}

// P8.10: counts that clash have no history alone, and no fewer do, nor as many that are a lesser list.
func TestClashAlone(t *testing.T) {
	d := dice.Dice(17)
	found, long := 0, 0
	for range 2000 {
		b, _ := anyBook(&d, api.MaxStockMoves, true)
		list, l := stock.Clash(b)
		n, _ := stock.Histories(b)
		none, _ := stock.Histories(alone(b, nil))
		if (l == api.Fine && len(list) == 0) != (n > 0) || (l == api.Short) != (none == 0) {
			t.Errorf("%+v: %d histories, %d without counts, but Clash is %v, bell %d", b, n, none, list, l)
		}
		if len(list) == 0 {
			continue
		}
		found++
		if len(list) > 1 {
			long++
		}
		promises.Clash(t, show(b), len(b.Counts), list, func(some []int) int {
			n, _ := stock.Histories(alone(b, some))
			return n
		})
	}
	if found < 200 || long < 20 {
		t.Errorf("only %d books clash, %d with more than one count", found, long)
	}
}

// P8.10: once it is counted what Ask asks, there are no more histories than it says, and whichever other good is counted, no fewer.
func TestAsked(t *testing.T) {
	d := dice.Dice(18)
	asked := 0
	for range 600 {
		b, _ := anyBook(&d, api.MaxStockMoves, false)
		if len(b.Counts) == api.MaxStockCounts {
			b.Counts = b.Counts[1:]
		}
		all, _ := stock.Histories(b)
		good, left, l := stock.Ask(b)
		if l != api.Fine {
			t.Errorf("%+v: bell %d", b, l)
		}
		promises.Asked(t, show(b), all, len(b.Goods), good, left, func(i int) int {
			most := 0
			can, _ := stock.Left(b, i, b.Days)
			for _, n := range can {
				o, l := stock.Note(b, count(i, b.Days, n, n))
				many, _ := stock.Histories(o)
				if l != api.Fine {
					t.Errorf("%+v: %d of %d cannot be counted, bell %d", b, n, i, l)
				}
				most = max(most, many)
			}
			return most
		})
		if good >= 0 {
			asked++
		}
	}
	if asked < 100 {
		t.Errorf("only %d books were asked", asked)
	}
}

// P8.11: the order of goods and of counts changes no more than indexes.
func TestOrder(t *testing.T) {
	d := dice.Dice(19)
	for i := range 600 {
		b, p := anyBook(&d, api.MaxStockMoves, i%2 == 0)
		goods, counts := d.Shuffled(len(b.Goods)), d.Shuffled(len(b.Counts))
		o, q := clone(b), p
		o.Goods, q.first = oracle.Picked(b.Goods, goods), oracle.Picked(p.first, goods)
		o.Counts = oracle.Picked(b.Counts, counts)
		for i, m := range b.Moves {
			o.Moves[i].Good = slices.Index(goods, m.Good)
		}
		for i, c := range o.Counts {
			o.Counts[i].Good = slices.Index(goods, c.Good)
		}
		if one, other := toldOfMoves(b, p), toldOfMoves(o, q); one != other {
			t.Errorf("%+v: %s, %+v: %s", b, one, o, other)
		}
		for now, old := range goods {
			if one, other := toldOfGood(b, p, old), toldOfGood(o, q, now); one != other {
				t.Errorf("%+v: good %d: %s, %+v: %d: %s", b, old, one, o, now, other)
			}
		}
		// counts that clash are others, if as many do, but they clash there, too
		list, _ := stock.Clash(o)
		var old []int
		for _, i := range list {
			old = append(old, counts[i])
		}
		slices.Sort(old)
		if n, _ := stock.Histories(alone(b, old)); len(list) > 0 && n > 0 {
			t.Errorf("%+v: Clash is %v, but %+v: %v has %d histories", o, list, b, old, n)
		}
	}
}

// toldOfMoves writes what is told of a book and of its moves, and not of a good or of a count.
func toldOfMoves(b api.StockBook, p past) string {
	is, l := stock.IsHistory(b, p.first, p.many, p.lies)
	many, l2 := stock.Histories(b)
	clash, l3 := stock.Clash(b)
	blame, l4 := stock.Blame(b)
	_, left, l5 := stock.Ask(b)
	told := []any{is, many, len(clash), blame, left, l, l2, l3, l4, l5}
	for move := range b.Moves {
		list, l := stock.Numbers(b, move)
		sure, l2 := stock.False(b, move)
		o, l3 := stock.Tell(b, move, to(0, 2))
		many, _ := stock.Histories(o)
		told = append(told, list, sure, many, l, l2, l3)
	}
	for day := range b.Days + 1 {
		worth, l := stock.Worth(b, day)
		told = append(told, worth, l)
	}
	return show(told...)
}

// toldOfGood writes what is told of a good.
func toldOfGood(b api.StockBook, p past, good int) string {
	left, low, l := stock.Play(b, p.first, p.many, p.lies)
	lost, l2 := stock.Lost(b, good, 1, b.Days)
	lasts, l3 := stock.Lasts(b, good, 2)
	rates := make([]int, len(b.Goods))
	rates[good] = 3
	packs, cost, l4 := stock.Buy(b, rates, 5)
	told := []any{left[good], low[good], lost, lasts, cost, len(packs), l, l2, l3, l4}
	if l4 == api.Fine {
		told = append(told, packs[good])
	}
	for day := range b.Days + 1 {
		list, l := stock.Left(b, good, day)
		o, l2 := stock.Note(b, count(good, day, 0, 3))
		many, _ := stock.Histories(o)
		told = append(told, list, many, l, l2)
	}
	return show(told...)
}
