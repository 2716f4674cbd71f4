package stock_test

import (
	"math"
	"slices"
	"strings"
	"testing"

	"nosale/api"
	"nosale/dice"
	"nosale/oracle"
	"nosale/promises"
	"nosale/stock"
)

// P8.3: Clash returns the fewest counts that alone have no history, none if there is one, and Short if there is none without counts.
func TestClash(t *testing.T) {
	const oil = "stock 9 0\ngood oil 1 1 5\nmove lost 0 3 0..2\nmove lost 0 6 0..2\n"
	for _, x := range []struct {
		text string
		want []int
		l    api.Bell
	}{
		{textT, nil, api.Fine}, {textBare, nil, api.Fine}, {textKinds, nil, api.Fine}, {textAll, nil, api.Fine}, {textOdd, []int{1}, api.Fine}, {textTwo, []int{0, 2}, api.Fine}, {textShort, nil, api.Short}, {"stock 3 0\ngood tea 1 1 0\nmove sold 0 1 1\n", nil, api.Short},
		{with("4..5", "9"), []int{0}, api.Fine}, {with("4..5", "0"), []int{0, 1}, api.Fine}, {strings.Replace(textOdd, "4..5", "9", 1), []int{0}, api.Fine},
		// the fewest come before the first ones
		{oil + "count 0 4 3\ncount 0 9 4\ncount 0 0 4\n", []int{2}, api.Fine}, {oil + "count 0 4 3\ncount 0 9 4\ncount 0 5 4\n", []int{0, 1}, api.Fine}, {oil + "count 0 4 3..4\ncount 0 9 4\ncount 0 5 5\n", []int{0, 2}, api.Fine}, {oil + "count 0 4 3..4\ncount 0 4 4..5\ncount 0 4 3..5\ncount 0 9 1\n", []int{1, 3}, api.Fine},
		// no two of them contradict each other
		{"stock 1 1\ngood a 1 1 0\ngood b 1 1 0\ngood c 1 1 0\nmove came 0 1 1\nmove came 1 1 1\nmove came 2 1 1\ncount 0 1 0..1\ncount 0 1 0\ncount 2 1 0\n", []int{1, 2}, api.Fine}, {"stock 1 2\ngood a 1 1 0\ngood b 1 1 0\ngood c 1 1 0\nmove came 0 1 1\nmove came 1 1 1\nmove came 2 1 1\ncount 0 1 0\ncount 0 1 0..1\ncount 1 1 0\ncount 2 1 0\n", []int{0, 2, 3}, api.Fine},
	} {
		if list, l := stock.Clash(parse(t, x.text)); !slices.Equal(list, x.want) || l != x.l {
			t.Errorf("%q: Clash: %v, bell %d, want %v, %d", x.text, list, l, x.want, x.l)
		}
	}
}

// P8.3: Blame returns the fewest notes that are false, whatever Most is, and Odds if no notes explain it.
func TestBlame(t *testing.T) {
	const one = "stock 5 0\ngood a 1 1 0\ngood b 1 1 0\nmove came 0 1 2\nmove came 0 2 3\nmove came 1 3 5\nmove came 0 4 5\n"
	for _, x := range []struct {
		text string
		want []int
		l    api.Bell
	}{
		{textT, []int{3}, api.Fine}, {textOdd, []int{3}, api.Fine}, {with("stock 10 1", "stock 10 2"), []int{3}, api.Fine}, {with("4..5", "0"), []int{0, 3}, api.Fine}, {with("4..5", "9"), nil, api.Odds}, {with("count 1 10 5\n", ""), nil, api.Fine}, {with("count 1 10 5\n", "count 1 10 15\n"), nil, api.Fine}, {textBare, nil, api.Fine}, {textShort, nil, api.Odds}, {textTwo, nil, api.Odds}, {textKinds, nil, api.Fine}, {"stock 3 0\ngood tea 1 1 0\n", nil, api.Fine},
		// the fewest come before the first ones, of as many the least list
		{one, nil, api.Fine}, {one + "count 0 5 5\n", []int{3}, api.Fine}, {one + "count 0 5 0\n", []int{0, 1, 3}, api.Fine}, {one + "count 0 5 0\ncount 1 5 0\n", []int{0, 1, 2, 3}, api.Fine}, {one + "count 0 5 7..8\n", []int{0}, api.Fine}, {one + "count 0 5 3..5\n", []int{3}, api.Fine}, {one + "count 0 5 2..3\n", []int{0, 3}, api.Fine}, {one + "count 0 5 5\ncount 1 5 0\n", []int{2, 3}, api.Fine}, {one + "count 0 5 1\n", nil, api.Odds},
		// what is sold must have come
		{"stock 5 2\ngood a 1 1 0\nmove came 0 1 2\nmove sold 0 2 2\nmove came 0 3 2\ncount 0 5 0\n", []int{2}, api.Fine}, {"stock 5 2\ngood a 1 1 0\nmove came 0 1 2\nmove sold 0 1 0..2\nmove came 0 3 2\ncount 0 5 0\n", []int{2}, api.Fine},
	} {
		if list, l := stock.Blame(parse(t, x.text)); !slices.Equal(list, x.want) || l != x.l {
			t.Errorf("%q: Blame: %v, bell %d, want %v, %d", x.text, list, l, x.want, x.l)
		}
	}
}

// P8.3: Ask returns the good to be counted in the end, and how many histories are left at most; -1, and all of them, if no good leaves fewer.
func TestAsk(t *testing.T) {
	const two = "stock 5 0\ngood a 1 1 0..1\ngood b 1 1 0..2\n"
	for _, x := range []struct {
		text       string
		good, left int
		l          api.Bell
	}{
		{textT, 0, 2, api.Fine}, {with("2..3", "2"), -1, 2, api.Fine}, {with("count 1 10 5\n", ""), 1, 4, api.Fine}, {textBare, -1, 1, api.Fine}, {textOdd, 0, 0, api.Odds}, {textShort, 0, 0, api.Odds}, {textTwo, 0, 0, api.Odds}, {textKinds, 0, 8, api.Fine},
		// of several the first one
		{two, 1, 2, api.Fine}, {strings.Replace(two, "0..1", "0..2", 1), 0, 3, api.Fine}, {strings.Replace(two, "0..2", "0..1", 1), 0, 2, api.Fine}, {two + "count 1 5 1\n", 0, 1, api.Fine}, {two + "count 0 5 1\n", 1, 1, api.Fine},
		// what was there in the end counts, not before
		{"stock 5 0\ngood a 1 1 0..2\nmove given 0 5 0..2\ncount 0 5 0\n", -1, 3, api.Fine}, {"stock 5 0\ngood a 1 1 1\nmove given 0 2 0..1\nmove back 0 5 0..1\n", 0, 2, api.Fine},
	} {
		if good, left, l := stock.Ask(parse(t, x.text)); good != x.good || left != x.left || l != x.l {
			t.Errorf("%q: Ask: %d, %d, bell %d, want %d, %d, %d", x.text, good, left, l, x.good, x.left, x.l)
		}
	}
}

// newsCase is a book of which more is known, and its text then, or the bell.
type newsCase struct {
	text, want string
	l          api.Bell
}

// is compares the book that a function returns with what is expected; the one that is handed in stays as it was.
func (x newsCase) is(t *testing.T, tell func(b api.StockBook) (api.StockBook, api.Bell), asked ...any) {
	t.Helper()
	old := parse(t, x.text)
	b, l := tell(old)
	layer().News(t, promises.Case{Text: x.text, Want: x.want, Bell: x.l}, old, b, l, asked...)
}

// P8.3: Note returns the book with one more count, at the end, or the bell that it has.
func TestNote(t *testing.T) {
	full := textT + strings.Repeat("count 1 10 5\n", 2)
	for _, x := range []struct {
		newsCase
		c api.StockCount
	}{
		{newsCase{textT, textT + "count 1 0 6\n", api.Fine}, count(1, 0, 6, 6)}, {newsCase{textT, textT + "count 0 2 0..999\n", api.Fine}, count(0, 2, 0, 999)}, {newsCase{textT, textT + "count 0 10 4..5\n", api.Fine}, count(0, 10, 4, 5)}, {newsCase{textBare, textBare + "count 0 1 0\n", api.Fine}, count(0, 1, 0, 0)},
		{newsCase{textT, "", api.Odds}, count(1, 0, 7, 9)}, {newsCase{textT, "", api.Odds}, count(0, 10, 6, 999)}, {newsCase{textOdd, "", api.Odds}, count(0, 0, 3, 3)}, {newsCase{textBare, "", api.Odds}, count(0, 0, 1, 1)},
		{newsCase{textT, "", api.Missing}, count(2, 0, 6, 6)}, {newsCase{textT, "", api.Missing}, count(-1, 11, 6, 5)}, {newsCase{textOdd, "", api.Missing}, count(math.MaxInt, 0, 0, 0)}, {newsCase{textT, "", api.Bound}, count(1, 11, 6, 6)}, {newsCase{textT, "", api.Bound}, count(1, -1, 6, 6)}, {newsCase{textT, "", api.Bound}, count(1, 0, 6, 5)}, {newsCase{textT, "", api.Bound}, count(1, 0, 0, 1000)}, {newsCase{textOdd, "", api.Bound}, count(1, 0, math.MinInt, math.MaxInt)},
		{newsCase{full, "", api.Count}, count(1, 10, 5, 5)}, {newsCase{full, "", api.Count}, count(9, 99, 5, 4)},
	} {
		x.is(t, func(b api.StockBook) (api.StockBook, api.Bell) { return stock.Note(b, x.c) }, x.c)
	}
}

// P8.3: Tell returns the book in which how many a move says is known better.
func TestTell(t *testing.T) {
	for _, x := range []struct {
		newsCase
		move int
		x    api.Span
	}{
		{newsCase{textT, with("0..1", "1"), api.Fine}, 2, to(1, 1)}, {newsCase{textT, with("2..3", "2"), api.Fine}, 1, to(0, 2)}, {newsCase{textT, with("2..3", "3"), api.Fine}, 1, to(3, 99)}, {newsCase{textT, textT, api.Fine}, 1, to(0, 99)}, {newsCase{textT, textT, api.Fine}, 3, to(10, 10)}, {newsCase{textAll, strings.Replace(textAll, "97..99\nmove came 1", "98..99\nmove came 1", 1), api.Fine}, 0, to(98, 99)},
		// a false note says something, too
		{newsCase{with("5 10\n", "5 9..11\n"), with("5 10\n", "5 11\n"), api.Fine}, 3, to(11, 12)},
		{newsCase{textT, "", api.Odds}, 1, to(4, 9)}, {newsCase{textT, "", api.Odds}, 3, to(0, 0)}, {newsCase{textOdd, "", api.Odds}, 1, to(0, 99)}, {newsCase{with("4..5", "5"), "", api.Odds}, 1, to(3, 3)},
		{newsCase{textT, "", api.Missing}, 4, to(1, 1)}, {newsCase{textT, "", api.Missing}, -1, to(1, 0)}, {newsCase{textT, "", api.Missing}, math.MinInt, to(1, 1)}, {newsCase{textBare, "", api.Missing}, 0, to(0, 0)}, {newsCase{textOdd, "", api.Missing}, 4, to(0, 0)},
		{newsCase{textT, "", api.Bound}, 1, to(2, 1)}, {newsCase{textT, "", api.Bound}, 1, to(0, 100)}, {newsCase{textT, "", api.Bound}, 1, to(-1, 5)}, {newsCase{textT, "", api.Bound}, 1, to(math.MinInt, math.MaxInt)}, {newsCase{textOdd, "", api.Bound}, 1, to(101, 100)},
	} {
		x.is(t, func(b api.StockBook) (api.StockBook, api.Bell) { return stock.Tell(b, x.move, x.x) }, x.move, x.x)
	}
}

// P8.3: Enter returns the book with one more move, at the end, or the bell that it has.
func TestEnter(t *testing.T) {
	entered := func(text, line string) string { return strings.Replace(text, "count 0", line+"count 0", 1) }
	full := entered(textT, strings.Repeat("move back 0 10 0\n", 2))
	const none = "stock 3 0\ngood tea 1 1 0\nmove sold 0 3 1\n"
	for _, x := range []struct {
		newsCase
		m api.StockMove
	}{
		{newsCase{textT, entered(textT, "move sold 1 9 1\n"), api.Fine}, move(api.StockSold, 1, 9, 1, 1)}, {newsCase{textT, entered(textT, "move given 0 10 0..1\n"), api.Fine}, move(api.StockGiven, 0, 10, 0, 1)}, {newsCase{textT, entered(textT, "move came 1 5 0..2\n"), api.Fine}, move(api.StockCame, 1, 5, 0, 2)}, {newsCase{textBare, textBare + "move back 0 1 97..99\n", api.Fine}, move(api.StockBack, 0, 1, 97, 99)},
		// what came later on the same day makes right what was sold
		{newsCase{none, none + "move came 0 3 1\n", api.Fine}, move(api.StockCame, 0, 3, 1, 1)}, {newsCase{none, "", api.Odds}, move(api.StockCame, 0, 3, 0, 0)},
		{newsCase{textT, "", api.Odds}, move(api.StockSold, 1, 9, 3, 3)}, {newsCase{textT, "", api.Odds}, move(api.StockLost, 0, 10, 6, 8)}, {newsCase{textOdd, "", api.Odds}, move(api.StockBack, 0, 10, 0, 0)},
		{newsCase{textT, "", api.Bound}, move(5, 0, 10, 0, 0)}, {newsCase{textT, "", api.Bound}, move(-1, 9, 0, 0, 9)}, {newsCase{textT, "", api.Missing}, move(api.StockCame, 2, 9, 0, 0)}, {newsCase{textT, "", api.Missing}, move(api.StockCame, -1, 0, 0, 9)}, {newsCase{textT, "", api.Bound}, move(api.StockCame, 1, 11, 0, 0)}, {newsCase{textT, "", api.Bound}, move(api.StockCame, 1, 0, 0, 0)}, {newsCase{textT, "", api.Order}, move(api.StockBack, 1, 4, 0, 0)}, {newsCase{textT, "", api.Order}, move(api.StockBack, 1, 4, 0, 9)}, {newsCase{textT, "", api.Bound}, move(api.StockBack, 1, 5, 0, 3)}, {newsCase{textT, "", api.Bound}, move(api.StockBack, 1, 5, 1, 0)}, {newsCase{textOdd, "", api.Bound}, move(api.StockBack, 1, 5, 98, 100)},
		{newsCase{full, "", api.Count}, move(api.StockBack, 0, 10, 0, 0)}, {newsCase{full, "", api.Count}, move(9, 9, 99, 1, 0)},
	} {
		x.is(t, func(b api.StockBook) (api.StockBook, api.Bell) { return stock.Enter(b, x.m) }, x.m)
	}
}

// P8.3: what is told of any book is what all that can have happened tells, and the histories of the books that are returned are those of the oracle.
func TestNewsLikeAllThatCanHaveHappened(t *testing.T) {
	d := dice.Dice(6)
	known := map[string]int{}
	for i := range 600 {
		b, real := anyBook(&d, 5, i%2 == 0)
		is := func(name string, want, got api.StockBook, l api.Bell) {
			t.Helper()
			bell := api.Fine
			if len(pasts(want)) == 0 {
				bell, want = api.Odds, api.StockBook{}
			}
			if show(got) != show(want) || l != bell {
				t.Errorf("%+v: %s: %+v, bell %d, want %+v, %d", b, name, got, l, want, bell)
			}
			if l == api.Fine {
				known[name]++
			}
		}
		list, l := stock.Clash(b)
		if want, bell := clashOf(b); !slices.Equal(list, want) || l != bell {
			t.Errorf("%+v: Clash: %v, bell %d, want %v, %d", b, list, l, want, bell)
		}
		list, l = stock.Blame(b)
		if want, found := blameOf(b); !slices.Equal(list, want) || (l == api.Fine) != found || !found && l != api.Odds {
			t.Errorf("%+v: Blame: %v, bell %d, want %v, %v", b, list, l, want, found)
		}
		if all := pasts(b); len(all) > 0 {
			good, left, l := stock.Ask(b)
			if good2, left2 := askOf(b, all); good != good2 || left != left2 || l != api.Fine {
				t.Errorf("%+v: Ask: %d, %d, bell %d, want %d, %d", b, good, left, l, good2, left2)
			}
		}
		for i, m := range b.Moves {
			o, n := clone(b), m.Many.Low+d.Roll(m.Many.High-m.Many.Low+1)
			o.Moves[i].Many = to(n, n)
			got, l := stock.Tell(b, i, to(n, n))
			is("Tell", o, got, l)
		}
		if len(b.Counts) < api.MaxStockCounts {
			o, c := clone(b), anyCount(&d, b, real)
			o.Counts = append(o.Counts, c)
			got, l := stock.Note(b, c)
			is("Note", o, got, l)
		}
		last := 1
		if len(b.Moves) > 0 {
			last = b.Moves[len(b.Moves)-1].Day
		}
		o, n := clone(b), d.Roll(4)
		m := move(api.StockKind(d.Roll(5)), d.Roll(len(b.Goods)), last+d.Roll(b.Days-last+1), n, n+d.Roll(2))
		o.Moves = append(o.Moves, m)
		got, l := stock.Enter(b, m)
		is("Enter", o, got, l)
	}
	for _, name := range []string{"Tell", "Note", "Enter"} {
		if known[name] < 100 {
			t.Errorf("%s made too few books: %d", name, known[name])
		}
	}
}

// P8.3: lists of counts and of notes that are long are found, too.
func TestLongLists(t *testing.T) {
	d := dice.Dice(7)
	clashes, blames := map[int]int{}, map[int]int{}
	for range 20000 {
		b, _ := anyBook(&d, api.MaxStockMoves, true)
		clash, _ := stock.Clash(b)
		blame, _ := stock.Blame(b)
		clashes[len(clash)]++
		blames[len(blame)]++
	}
	for n := range 3 {
		if clashes[n] < 5 || blames[n] < 5 {
			t.Errorf("only %d clashes, and %d blames, of %d", clashes[n], blames[n], n)
		}
	}
	// all counts, and all notes
	b := parse(t, "stock 1 2\ngood a 1 1 0\ngood b 1 1 0\nmove came 0 1 1\nmove came 0 1 2\nmove came 0 1 4\nmove came 1 1 1\nmove came 1 1 2\nmove came 1 1 4\ncount 0 1 0\ncount 1 1 0\n")
	if list, l := stock.Blame(b); !slices.Equal(list, oracle.Indexes(6)) || l != api.Fine {
		t.Errorf("Blame: %v, bell %d", list, l)
	}
}
