package stock_test

import (
	"math"
	"slices"
	"testing"

	"nosale/api"
	"nosale/dice"
	"nosale/oracle"
	"nosale/stock"
)

// P8.1: Play tells what is left in the end, and the least stock of any day, whatever spans, Most and counts say; IsHistory whether it is a history; and the bells that they have.
func TestPlay(t *testing.T) {
	const o, y = false, true
	for _, x := range []struct {
		text      string
		p         past
		left, low []int
		is        bool
		l         api.Bell
	}{
		{textT, past{[]int{3, 5}, []int{4, 2, 0, 10}, []int{3}}, []int{5, 5}, []int{3, 5}, y, api.Fine}, {textT, past{[]int{3, 6}, []int{4, 3, 1, 10}, []int{3}}, []int{4, 5}, []int{3, 5}, y, api.Fine},
		// a note more, or less, is false than can be
		{textT, past{[]int{3, 5}, []int{4, 2, 0, 10}, nil}, []int{5, 15}, []int{3, 5}, o, api.Fine}, {textT, past{[]int{3, 5}, []int{4, 2, 0, 10}, []int{0, 3}}, []int{1, 5}, []int{1, 5}, o, api.Fine}, {textT, past{[]int{3, 5}, []int{4, 2, 0, 10}, []int{0}}, []int{1, 15}, []int{1, 5}, o, api.Fine}, {textOdd, past{[]int{3, 5}, []int{4, 2, 0, 10}, []int{3}}, []int{5, 5}, []int{3, 5}, o, api.Fine},
		// the counts are wrong
		{textT, past{[]int{3, 6}, []int{4, 2, 0, 10}, []int{3}}, []int{5, 6}, []int{3, 6}, o, api.Fine}, {textTwo, past{[]int{4}, []int{1}, nil}, []int{3}, []int{3}, o, api.Fine},
		// numbers that the spans do not have
		{textT, past{[]int{2, 5}, []int{4, 2, 0, 10}, []int{3}}, []int{4, 5}, []int{2, 5}, o, api.Fine}, {textT, past{[]int{3, 5}, []int{4, 1, 0, 10}, []int{3}}, []int{6, 5}, []int{3, 5}, o, api.Fine}, {textT, past{[]int{3, 7}, []int{4, 2, 2, 10}, []int{3}}, []int{5, 5}, []int{3, 5}, o, api.Fine}, {textT, past{[]int{3, 5}, []int{4, 2, 0, 9}, []int{3}}, []int{5, 5}, []int{3, 5}, o, api.Fine}, {textT, past{[]int{99, 99}, []int{99, 0, 0, 99}, nil}, []int{198, 198}, []int{99, 99}, o, api.Fine},
		// a stock below 0, in the end or before it
		{textShort, past{[]int{0}, []int{1}, nil}, []int{-1}, []int{-1}, o, api.Fine}, {textShort, past{[]int{1}, []int{1}, nil}, []int{0}, []int{0}, o, api.Fine}, {textT, past{[]int{0, 0}, []int{0, 99, 99, 99}, nil}, []int{-99, 0}, []int{-99, -99}, o, api.Fine},
		// the day counts, not the order of its moves
		{textDay, past{[]int{0, 2}, []int{3, 2, 3, 1}, nil}, []int{0, 1}, []int{0, 1}, y, api.Fine}, {textDay, past{[]int{1, 2}, []int{3, 0, 2, 1}, nil}, []int{0, 3}, []int{0, 2}, y, api.Fine}, {textDay, past{[]int{0, 2}, []int{3, 2, 2, 1}, nil}, []int{-1, 1}, []int{-1, 1}, o, api.Fine}, {textDay, past{[]int{1, 2}, []int{3, 2, 3, 1}, []int{2}}, []int{-2, 1}, []int{-2, 1}, o, api.Fine},
		// all kinds
		{textKinds, past{[]int{10, 0}, []int{20, 5, 0, 1, 1, 7}, nil}, []int{25, 7}, []int{10, 0}, y, api.Fine}, {textKinds, past{[]int{10, 0}, []int{20, 6, 2, 1, 2, 7}, []int{5}}, []int{23, 0}, []int{10, 0}, o, api.Fine}, {textKinds, past{[]int{10, 0}, []int{20, 6, 2, 1, 1, 7}, []int{0, 5}}, []int{2, 0}, []int{1, 0}, o, api.Fine},
		{textBare, past{[]int{0}, nil, nil}, []int{0}, []int{0}, y, api.Fine}, {textBare, past{[]int{1}, nil, nil}, []int{1}, []int{1}, o, api.Fine},
		// how many there were at first
		{textT, past{[]int{3}, nil, nil}, nil, nil, o, api.Count}, {textT, past{nil, nil, nil}, nil, nil, o, api.Count}, {textT, past{[]int{3, 5, 1}, []int{4, 2, 0, 10}, nil}, nil, nil, o, api.Count}, {textT, past{[]int{-1}, nil, []int{9}}, nil, nil, o, api.Count}, {textT, past{[]int{3, 100}, nil, nil}, nil, nil, o, api.Bound}, {textT, past{[]int{-1, 5}, []int{4}, []int{9}}, nil, nil, o, api.Bound}, {textT, past{[]int{math.MinInt, math.MaxInt}, nil, nil}, nil, nil, o, api.Bound},
		// how many each move says
		{textT, past{[]int{3, 5}, nil, nil}, nil, nil, o, api.Count}, {textT, past{[]int{3, 5}, []int{4, 2, 0}, nil}, nil, nil, o, api.Count}, {textT, past{[]int{3, 5}, make([]int, 5), []int{9}}, nil, nil, o, api.Count}, {textT, past{[]int{3, 5}, []int{4, 2, -1, 100, 0}, nil}, nil, nil, o, api.Count}, {textT, past{[]int{3, 5}, []int{4, 2, 0, -1}, []int{9}}, nil, nil, o, api.Bound}, {textT, past{[]int{3, 5}, []int{4, 2, 0, 100}, nil}, nil, nil, o, api.Bound}, {textT, past{[]int{3, 5}, []int{math.MaxInt, 2, 0, 0}, nil}, nil, nil, o, api.Bound}, {textBare, past{[]int{0}, []int{0}, nil}, nil, nil, o, api.Count},
		// notes, number by number
		{textT, past{[]int{3, 5}, []int{4, 2, 0, 10}, []int{1}}, nil, nil, o, api.Missing}, {textT, past{[]int{3, 5}, []int{4, 2, 0, 10}, []int{2}}, nil, nil, o, api.Missing}, {textT, past{[]int{3, 5}, []int{4, 2, 0, 10}, []int{4}}, nil, nil, o, api.Missing}, {textT, past{[]int{3, 5}, []int{4, 2, 0, 10}, []int{-1}}, nil, nil, o, api.Missing}, {textT, past{[]int{3, 5}, []int{4, 2, 0, 10}, []int{math.MinInt}}, nil, nil, o, api.Missing}, {textT, past{[]int{3, 5}, []int{4, 2, 0, 10}, []int{0, math.MaxInt}}, nil, nil, o, api.Missing}, {textT, past{[]int{3, 5}, []int{4, 2, 0, 10}, []int{0, 1}}, nil, nil, o, api.Missing},
		{textT, past{[]int{3, 5}, []int{4, 2, 0, 10}, []int{3, 0}}, nil, nil, o, api.Order}, {textT, past{[]int{3, 5}, []int{4, 2, 0, 10}, []int{0, 0}}, nil, nil, o, api.Order}, {textT, past{[]int{3, 5}, []int{4, 2, 0, 10}, []int{3, 1}}, nil, nil, o, api.Missing}, {textT, past{[]int{3, 5}, []int{4, 2, 0, 10}, []int{3, 0, 1}}, nil, nil, o, api.Order}, {textT, past{[]int{3, 5}, []int{4, 2, 0, 10}, []int{3, 1, 0}}, nil, nil, o, api.Missing}, {textT, past{[]int{3, 5}, []int{4, 2, 0, 10}, make([]int, 1000000)}, nil, nil, o, api.Order}, {textBare, past{[]int{0}, nil, []int{0}}, nil, nil, o, api.Missing},
		{textAll, past{[]int{98, 0, 50}, []int{99, 99, 1, 3, 3, 53}, []int{0, 3}}, []int{97, 99, 0}, []int{97, 0, 0}, y, api.Fine}, {textAll, past{[]int{98, 0, 50}, []int{99, 99, 1, 3, 3, 53}, []int{4}}, []int{196, 102, -3}, []int{98, 0, -3}, o, api.Fine},
	} {
		b := parse(t, x.text)
		if left, low, l := stock.Play(b, x.p.first, x.p.many, x.p.lies); show(left, low, l) != show(x.left, x.low, x.l) {
			t.Errorf("%q, %.80v: Play: %v, %v, bell %d, want %v, %v, %d", x.text, x.p, left, low, l, x.left, x.low, x.l)
		}
		if is, l := stock.IsHistory(b, x.p.first, x.p.many, x.p.lies); is != x.is || l != x.l {
			t.Errorf("%q, %.80v: a history: %v, bell %d, want %v, %d", x.text, x.p, is, l, x.is, x.l)
		}
	}
}

// P8.1: how many histories there are.
func TestHistories(t *testing.T) {
	const one = "stock 3 0\ngood tea 1 1 2\n"
	for text, want := range map[string]int{
		textT: 4, textBare: 1, textShort: 0, textOdd: 0, textTwo: 0, textKinds: 8 * 2,
		// numbers of a false note are told apart, too
		with("10\ncount", "9..11\ncount"): 12, with("count 1 10 5\n", ""): 16, with("count 1 10 5\n", "count 1 10 5..15\n"): (3 + 3) * 2,
		// each note can be false, or two of them, or none
		"stock 1 2\ngood a 1 1 0\nmove came 0 1 1\nmove came 0 1 1\nmove came 0 1 1\n": 7, "stock 1 1\ngood a 1 1 0\nmove came 0 1 1\nmove came 0 1 1\nmove came 0 1 1\n": 4, "stock 1 0\ngood a 1 1 0\nmove came 0 1 1\nmove came 0 1 1\nmove came 0 1 1\n": 1,
		// a note of 0 is false or not, though it makes no difference
		"stock 1 1\ngood a 1 1 0\nmove came 0 1 0\n": 2,
		// nothing but what came has a note
		"stock 1 2\ngood a 1 1 9\nmove sold 0 1 1\nmove lost 0 1 1\nmove given 0 1 1\nmove back 0 1 1\n": 1,
		// what is not there cannot be sold, lost or given, but on the same day it can come first
		one + "move sold 0 1 1..3\nmove back 0 2 1\n": 2, one + "move back 0 1 1\nmove sold 0 1 1..3\n": 3, one + "move sold 0 1 1..3\nmove back 0 1 1\n": 3, one + "move lost 0 3 2..4\n": 1, one + "move given 0 3 3\n": 0,
		// counts of the beginning, of days between and of days without a move
		one + "count 0 0 2\n": 1, one + "count 0 0 3\n": 0, one + "move sold 0 2 0..2\ncount 0 1 2\n": 3, one + "move sold 0 2 0..2\ncount 0 1 0..1\n": 0, one + "move sold 0 2 0..2\ncount 0 2 0..1\n": 2, one + "move sold 0 2 0..2\ncount 0 3 1..2\n": 2, one + "move sold 0 1 0..2\nmove sold 0 3 1\ncount 0 2 1\n": 1, one + "move sold 0 1 0..2\nmove back 0 3 1\ncount 0 3 1\n": 1,
		// of a good that others do not touch
		textDay: 3 * 3, with("count 0 10 4..5\ncount 1 10 5\n", ""): (1 + 1 + 1) * 8,
	} {
		if n, l := stock.Histories(parse(t, text)); n != want || l != api.Fine {
			t.Errorf("%q: %d histories, bell %d, want %d", text, n, l, want)
		}
	}
}

// P8.1: the stocks that a good can have at the end of a day.
func TestLeft(t *testing.T) {
	for _, x := range []struct {
		text      string
		good, day int
		want      []int
		l         api.Bell
	}{
		{textT, 0, 10, []int{4, 5}, api.Fine}, {textT, 0, 0, []int{3}, api.Fine}, {textT, 0, 1, []int{3}, api.Fine}, {textT, 0, 2, []int{7}, api.Fine}, {textT, 0, 3, []int{4, 5}, api.Fine}, {textT, 1, 0, []int{5, 6}, api.Fine}, {textT, 1, 3, []int{5, 6}, api.Fine}, {textT, 1, 4, []int{5}, api.Fine}, {textT, 1, 10, []int{5}, api.Fine}, {with("count 1 10 5\n", ""), 1, 10, []int{4, 5, 6, 14, 15, 16}, api.Fine}, {textKinds, 0, 20, []int{24, 25, 26}, api.Fine}, {textKinds, 1, 20, []int{0, 7}, api.Fine}, {textBare, 0, 0, []int{0}, api.Fine}, {textAll, 1, 98, []int{99, 100, 101}, api.Fine},
		{textT, 2, 10, nil, api.Missing}, {textT, -1, 99, nil, api.Missing}, {textT, math.MaxInt, 0, nil, api.Missing}, {textT, 0, 11, nil, api.Bound}, {textT, 0, -1, nil, api.Bound}, {textT, 1, math.MinInt, nil, api.Bound}, {textBare, 0, 2, nil, api.Bound},
		{textOdd, 0, 10, nil, api.Odds}, {textOdd, 2, 10, nil, api.Missing}, {textOdd, 0, 11, nil, api.Bound},
	} {
		if list, l := stock.Left(parse(t, x.text), x.good, x.day); !slices.Equal(list, x.want) || l != x.l {
			t.Errorf("%q: Left %d, %d: %v, bell %d, want %v, %d", x.text, x.good, x.day, list, l, x.want, x.l)
		}
	}
}

// P8.1: how many can really have come, been sold, and so on, and whether a note is false.
func TestNumbersAndFalse(t *testing.T) {
	const o, y, n = api.Open, api.Yes, api.No
	wide := with("count 0 10 4..5", "count 0 10 0..9")
	for _, x := range []struct {
		text     string
		move     int
		want     []int
		sure     api.Sure
		l, other api.Bell
	}{
		{textT, 0, []int{4}, n, api.Fine, api.Fine}, {textT, 1, []int{2, 3}, 0, api.Fine, api.Missing}, {textT, 2, []int{0, 1}, 0, api.Fine, api.Missing}, {textT, 3, []int{0}, y, api.Fine, api.Fine}, {with("count 1 10 5\n", ""), 3, []int{0, 10}, o, api.Fine, api.Fine}, {with("10\ncount", "9..11\ncount"), 3, []int{0}, y, api.Fine, api.Fine}, {with("count 1 10 5\n", "count 1 10 5..15\n"), 3, []int{0, 10}, o, api.Fine, api.Fine},
		// only one of two can be false
		{wide, 0, []int{4}, n, api.Fine, api.Fine},
		// what is false need not be counted: 0 is what came then
		{"stock 1 1\ngood a 1 1 1\nmove came 0 1 0..2\n", 0, []int{0, 1, 2}, o, api.Fine, api.Fine}, {"stock 1 1\ngood a 1 1 1\nmove came 0 1 1..2\ncount 0 1 1\n", 0, []int{0}, y, api.Fine, api.Fine},
		{textKinds, 0, []int{20}, n, api.Fine, api.Fine}, {textKinds, 1, []int{5, 6}, 0, api.Fine, api.Missing}, {textKinds, 4, []int{1, 2}, 0, api.Fine, api.Missing}, {textKinds, 5, []int{0, 7}, o, api.Fine, api.Fine},
		{textT, 4, nil, 0, api.Missing, api.Missing}, {textT, -1, nil, 0, api.Missing, api.Missing}, {textT, math.MaxInt, nil, 0, api.Missing, api.Missing}, {textBare, 0, nil, 0, api.Missing, api.Missing}, {textOdd, 0, nil, 0, api.Odds, api.Odds}, {textOdd, 1, nil, 0, api.Odds, api.Missing}, {textOdd, 4, nil, 0, api.Missing, api.Missing},
	} {
		b := parse(t, x.text)
		list, l := stock.Numbers(b, x.move)
		sure, other := stock.False(b, x.move)
		if show(list, sure, l, other) != show(x.want, x.sure, x.l, x.other) {
			t.Errorf("%q, %d: %v, %d, bells %d, %d, want %v, %d, %d, %d", x.text, x.move, list, sure, l, other, x.want, x.sure, x.l, x.other)
		}
	}
}

// P8.1: what is told of any book is what all that can have happened tells.
func TestLikeAllThatCanHaveHappened(t *testing.T) {
	d := dice.Dice(1)
	none := 0
	for i := range 1500 {
		b, _ := anyBook(&d, 5, i%2 == 0)
		all := pasts(b)
		if n, l := stock.Histories(b); n != len(all) || l != api.Fine {
			t.Errorf("%+v: %d histories, bell %d, want %d", b, n, l, len(all))
		}
		if len(all) == 0 {
			none++
			continue
		}
		for good := range b.Goods {
			for day := range b.Days + 1 {
				want := oracle.Numbers(all, func(p past) int { return stockOf(b, p, good, day) })
				if list, l := stock.Left(b, good, day); !slices.Equal(list, want) || l != api.Fine {
					t.Errorf("%+v: Left %d, %d: %v, bell %d, want %v", b, good, day, list, l, want)
				}
			}
		}
		for move := range b.Moves {
			want := oracle.Numbers(all, func(p past) int { return p.really(move) })
			if list, l := stock.Numbers(b, move); !slices.Equal(list, want) || l != api.Fine {
				t.Errorf("%+v: Numbers %d: %v, bell %d, want %v", b, move, list, l, want)
			}
		}
		for _, move := range notes(b) {
			want := oracle.Sure(all, func(p past) bool { return slices.Contains(p.lies, move) })
			if sure, l := stock.False(b, move); sure != want || l != api.Fine {
				t.Errorf("%+v: False %d: %d, bell %d, want %d", b, move, sure, l, want)
			}
		}
	}
	if none < 200 {
		t.Errorf("only %d books had no history", none)
	}
}

// P8.1: what becomes of all that can have happened, and of what cannot, and whether it is a history.
func TestPlayLike(t *testing.T) {
	d := dice.Dice(2)
	are, below := 0, 0
	for i := range 600 {
		b, _ := anyBook(&d, api.MaxStockMoves, i%2 == 0)
		all := plays(b, api.MaxStockMoves)
		for range 30 {
			p := all[d.Roll(len(all))]
			p = past{slices.Clone(p.first), slices.Clone(p.many), p.lies}
			if len(p.many) > 0 && d.Roll(2) == 0 {
				p.many[d.Roll(len(p.many))] = d.Roll(9)
			}
			if d.Roll(4) == 0 {
				p.first[d.Roll(len(p.first))] = d.Roll(9)
			}
			var left, low []int
			for good := range b.Goods {
				left, low = append(left, endOf(b, p, good)), append(low, lowOf(b, p, good))
			}
			left2, low2, l := stock.Play(b, p.first, p.many, p.lies)
			is, l2 := stock.IsHistory(b, p.first, p.many, p.lies)
			if show(left2, low2, is, l, l2) != show(left, low, agrees(b, p), api.Fine, api.Fine) {
				t.Errorf("%+v, %v: %v, %v, %v, bells %d, %d", b, p, left2, low2, is, l, l2)
			}
			if is {
				are++
			}
			if slices.Min(low) < 0 {
				below++
			}
		}
	}
	if are < 1000 || below < 1000 {
		t.Errorf("only %d histories, and %d stocks below 0", are, below)
	}
}
