package stock_test

import (
	"math"
	"slices"
	"strings"
	"testing"

	"nosale/api"
	"nosale/stock"
)

// bellCase is a change of the book T, and the bell that it has then.
type bellCase struct {
	name   string
	change func(b *api.StockBook)
	want   api.Bell
}

// all makes several changes.
func all(changes ...func(b *api.StockBook)) func(b *api.StockBook) {
	return func(b *api.StockBook) {
		for _, change := range changes {
			change(b)
		}
	}
}

// days, most, goods, moves and counts put others in the place of those of a book.
func days(n int) func(b *api.StockBook) { return func(b *api.StockBook) { b.Days = n } }
func most(n int) func(b *api.StockBook) { return func(b *api.StockBook) { b.Most = n } }
func goods(n int) func(b *api.StockBook) {
	return func(b *api.StockBook) { b.Goods = make([]api.StockGood, n) }
}
func moves(n int) func(b *api.StockBook) {
	return func(b *api.StockBook) { b.Moves = make([]api.StockMove, n) }
}
func counts(list ...api.StockCount) func(b *api.StockBook) {
	return func(b *api.StockBook) { b.Counts = list }
}

// headCases are those of the numbers of a book.
func headCases() []bellCase {
	short := func(b *api.StockBook) { b.Moves, b.Counts = nil, nil }
	return []bellCase{
		{"the book T", all(), api.Fine},
		{"days at the limit", days(99), api.Fine}, {"days above the limit", days(100), api.Bound}, {"no days", days(0), api.Bound}, {"days below 0", days(-1), api.Bound}, {"very many days", days(math.MaxInt), api.Bound}, {"very few days", days(math.MinInt), api.Bound}, {"one day", all(days(1), short), api.Fine},
		{"no false notes", most(0), api.Fine}, {"false notes at the limit", most(2), api.Fine}, {"false notes above the limit", most(3), api.Bound}, {"false notes below 0", most(-1), api.Bound}, {"very many false notes", most(math.MaxInt), api.Bound}, {"very few false notes", most(math.MinInt), api.Bound},
		// the first one decides
		{"wrong days, and no goods", all(days(0), goods(0)), api.Bound}, {"wrong Most, and too many goods", all(most(3), goods(4)), api.Bound}, {"no goods, and too many moves", all(goods(0), moves(7)), api.Count},
	}
}

// goodCases are those of goods.
func goodCases() []bellCase {
	rice := func(change func(g *api.StockGood)) func(b *api.StockBook) {
		return func(b *api.StockBook) { change(&b.Goods[1]) }
	}
	name := func(s string) func(b *api.StockBook) { return rice(func(g *api.StockGood) { g.Name = s }) }
	cost := func(n int) func(b *api.StockBook) { return rice(func(g *api.StockGood) { g.Cost = n }) }
	pack := func(n int) func(b *api.StockBook) { return rice(func(g *api.StockGood) { g.Pack = n }) }
	first := func(low, high int) func(b *api.StockBook) {
		return rice(func(g *api.StockGood) { g.First = to(low, high) })
	}
	oil := func(b *api.StockBook) { b.Goods = append(b.Goods, api.StockGood{Name: "oil", Pack: 1}) }
	wrong := func(b *api.StockBook) { b.Goods[0].Pack = 0 }
	return []bellCase{
		{"goods at the limit", oil, api.Fine}, {"goods above the limit", all(oil, oil), api.Count}, {"no goods", goods(0), api.Count}, {"very many goods", goods(1000000), api.Count}, {"goods of zero values", goods(3), api.Label},
		{"no name", name(""), api.Label}, {"a name in capitals", name("Rice"), api.Label}, {"a name that begins with a digit", name("0a"), api.Label}, {"a name with a digit", name("a0"), api.Fine}, {"a name at the limit", name("abcdefghij"), api.Fine}, {"a name above the limit", name("abcdefghijk"), api.Label}, {"a name with a blank", name("r ice"), api.Label}, {"a name of other bytes", name("\xff"), api.Label}, {"a very long name", name(strings.Repeat("a", 1000000)), api.Label},
		{"the same name", name("tea"), api.Twice}, {"the same name, not side by side", all(oil, func(b *api.StockBook) { b.Goods[2].Name = "tea" }), api.Twice},
		{"no cost", cost(0), api.Fine}, {"a cost at the limit", cost(999), api.Fine}, {"a cost above the limit", cost(1000), api.Bound}, {"a cost below 0", cost(-1), api.Bound}, {"a very great cost", cost(math.MaxInt), api.Bound}, {"a very small cost", cost(math.MinInt), api.Bound},
		{"a pack of one", pack(1), api.Fine}, {"a pack at the limit", pack(20), api.Fine}, {"a pack above the limit", pack(21), api.Bound}, {"a pack of none", pack(0), api.Bound}, {"a pack below 0", pack(-1), api.Bound}, {"a very great pack", pack(math.MaxInt), api.Bound},
		{"none at first", first(0, 0), api.Fine}, {"so many at first at the limit", first(97, 99), api.Fine}, {"so many at first above the limit", first(98, 100), api.Bound}, {"so many at first below 0", first(-1, 1), api.Bound}, {"so many at first too wide", first(5, 8), api.Bound}, {"so many at first that is no span", first(6, 5), api.Bound}, {"so many at first very wide", first(math.MinInt, math.MaxInt), api.Bound}, {"so many at first that is no span at all", first(math.MaxInt, math.MinInt), api.Bound},
		// the first one decides
		{"too many goods, all wrong", goods(4), api.Count}, {"no name, and a wrong cost", all(name(""), cost(-1)), api.Label}, {"the same name, and a wrong pack", all(name("tea"), pack(0)), api.Twice}, {"a wrong good, before one without a name", all(name(""), wrong), api.Bound}, {"no name twice", all(name(""), func(b *api.StockBook) { b.Goods[0].Name = "" }), api.Label}, {"a wrong cost, and too many moves", all(cost(-1), moves(7)), api.Bound},
	}
}

// moveCases are those of moves.
func moveCases() []bellCase {
	sold := func(change func(m *api.StockMove)) func(b *api.StockBook) {
		return func(b *api.StockBook) { change(&b.Moves[1]) }
	}
	kind := func(k api.StockKind) func(b *api.StockBook) { return sold(func(m *api.StockMove) { m.Kind = k }) }
	good := func(n int) func(b *api.StockBook) { return sold(func(m *api.StockMove) { m.Good = n }) }
	day := func(n int) func(b *api.StockBook) { return sold(func(m *api.StockMove) { m.Day = n }) }
	many := func(low, high int) func(b *api.StockBook) {
		return sold(func(m *api.StockMove) { m.Many = to(low, high) })
	}
	more := func(n int) func(b *api.StockBook) {
		return func(b *api.StockBook) { b.Moves = append(b.Moves, slices.Repeat(b.Moves[3:], n)...) }
	}
	early := func(b *api.StockBook) { b.Moves[0].Day = 0 }
	return []bellCase{
		{"no moves", moves(0), api.Fine}, {"moves at the limit", more(2), api.Fine}, {"moves above the limit", more(3), api.Count}, {"very many moves", moves(1000000), api.Count},
		{"back", kind(api.StockBack), api.Fine}, {"given", kind(api.StockGiven), api.Fine}, {"a kind above the last one", kind(5), api.Bound}, {"a kind below the first one", kind(-1), api.Bound}, {"a kind far away", kind(math.MaxInt), api.Bound}, {"a kind far below", kind(math.MinInt), api.Bound},
		{"the other good", good(1), api.Fine}, {"a good that is not there", good(2), api.Missing}, {"a good below 0", good(-1), api.Missing}, {"a good far away", good(math.MaxInt), api.Missing}, {"a good far below", good(math.MinInt), api.Missing},
		{"the same day", day(2), api.Fine}, {"the day of the next move", day(4), api.Fine}, {"a day before the move before it", day(1), api.Order}, {"a day behind the next move", day(5), api.Order}, {"the day 0", day(0), api.Bound}, {"a day behind the last one", day(11), api.Bound}, {"a day below 0", day(-1), api.Bound}, {"a day far away", day(math.MaxInt), api.Bound}, {"a day far below", day(math.MinInt), api.Bound}, {"the last day", func(b *api.StockBook) { b.Moves[3].Day = 10 }, api.Fine}, {"fewer days than moves need", all(days(4), counts()), api.Bound},
		{"none were sold", many(0, 0), api.Fine}, {"so many at the limit", many(97, 99), api.Fine}, {"so many above the limit", many(98, 100), api.Bound}, {"so many below 0", many(-1, 1), api.Bound}, {"so many too wide", many(2, 5), api.Bound}, {"so many that is no span", many(3, 2), api.Bound}, {"so many very wide", many(math.MinInt, math.MaxInt), api.Bound},
		// the first one decides
		{"too many moves, all wrong", func(b *api.StockBook) { b.Moves = slices.Repeat([]api.StockMove{{Kind: 9}}, 7) }, api.Count}, {"a wrong kind, and no good", all(kind(5), good(2)), api.Bound}, {"no good, and a wrong day", all(good(2), day(0)), api.Missing}, {"the day 0, below the move before it", day(0), api.Bound}, {"out of order, and too wide", all(day(1), many(2, 5)), api.Order}, {"a wrong move, before one that is out of order", all(day(1), early), api.Bound}, {"out of order, before no good", all(day(1), func(b *api.StockBook) { b.Moves[2].Good = 9 }), api.Order}, {"no good, and too many counts", all(good(2), counts(make([]api.StockCount, 5)...)), api.Missing},
	}
}

// countCases are those of counts.
func countCases() []bellCase {
	one := func(good, day, low, high int) func(b *api.StockBook) {
		return counts(count(0, 0, 3, 3), count(good, day, low, high))
	}
	return []bellCase{
		{"no counts", counts(), api.Fine}, {"counts at the limit", counts(make([]api.StockCount, 4)...), api.Fine}, {"counts above the limit", counts(make([]api.StockCount, 5)...), api.Count}, {"very many counts", counts(make([]api.StockCount, 1000000)...), api.Count}, {"counts of one day in any order", counts(count(0, 10, 4, 4), count(0, 0, 3, 3), count(0, 10, 4, 4)), api.Fine},
		{"a good that is not there to be counted", one(2, 1, 0, 9), api.Missing}, {"a good below 0 to be counted", one(-1, 1, 0, 9), api.Missing}, {"a good far away to be counted", one(math.MaxInt, 1, 0, 9), api.Missing}, {"a good far below to be counted", one(math.MinInt, 1, 0, 9), api.Missing},
		{"a count of the beginning", one(1, 0, 0, 9), api.Fine}, {"a count of the last day", one(1, 10, 0, 9), api.Fine}, {"a count behind the last day", one(1, 11, 0, 9), api.Bound}, {"a count below 0", one(1, -1, 0, 9), api.Bound}, {"a count far away", one(1, math.MaxInt, 0, 9), api.Bound}, {"a count far below", one(1, math.MinInt, 0, 9), api.Bound},
		{"anything was counted", one(1, 1, 0, 999), api.Fine}, {"what was counted at the limit", one(1, 1, 999, 999), api.Fine}, {"what was counted above the limit", one(1, 1, 0, 1000), api.Bound}, {"what was counted below 0", one(1, 1, -1, 9), api.Bound}, {"what was counted is no span", one(1, 1, 9, 8), api.Bound}, {"what was counted is very wide", one(1, 1, math.MinInt, math.MaxInt), api.Bound}, {"counts that contradict each other", counts(count(0, 0, 1, 1), count(0, 0, 2, 2)), api.Fine},
		// the first one decides
		{"too many counts, all wrong", counts(slices.Repeat([]api.StockCount{{Good: 9}}, 5)...), api.Count}, {"no good, and a wrong day of a count", one(2, 11, 0, 9), api.Missing}, {"a wrong count, before no good", counts(count(0, 11, 0, 9), count(2, 1, 0, 9)), api.Bound},
	}
}

// bellCases returns all cases.
func bellCases() []bellCase {
	return slices.Concat(headCases(), goodCases(), moveCases(), countCases())
}

// P8.1, P0.2: CheckBook returns the first bell, which all functions return then, with nothing else.
func TestBells(t *testing.T) {
	for _, x := range bellCases() {
		b := parse(t, textT)
		x.change(&b)
		if l := stock.CheckBook(b); l != x.want {
			t.Errorf("%s: bell %d, want %d", x.name, l, x.want)
		}
		if x.want != api.Fine {
			onlyBell(t, x.name, b, x.want)
		}
	}
}

// onlyBell tells whether all functions return the bell of a book, and nothing else, even if they are asked for what is not there.
func onlyBell(t *testing.T, name string, b api.StockBook, want api.Bell) {
	t.Helper()
	if got := withoutHistory(b); got != show(past{}, 0, false, []int{}, []int{}, "", want, want, want, want, want, want) {
		t.Errorf("%s: %s, want the bell %d alone", name, got, want)
	}
	for _, n := range []int{0, 1, 99, -1} {
		if got := ofBook(b, n); got != bookAlone(want) {
			t.Errorf("%s, %d: %s, want the bell %d alone", name, n, got, want)
		}
		if got := ofThings(b, n); got != thingsAlone(want) {
			t.Errorf("%s, %d: %s, want the bell %d alone", name, n, got, want)
		}
	}
}

// withoutHistory writes the results of the functions that do not need a history.
func withoutHistory(b api.StockBook) string {
	left, low, l := stock.Play(b, []int{-1}, nil, nil)
	many, l2 := stock.Histories(b)
	is, l3 := stock.IsHistory(b, nil, nil, []int{9})
	clash, l4 := stock.Clash(b)
	blame, l5 := stock.Blame(b)
	text, l6 := stock.Print(b)
	return show(past{left, low, nil}, many, is, clash, blame, text, l, l2, l3, l4, l5, l6)
}

// ofBook writes the results of the functions that need a history, and are asked about no good and no move but those of a count and of a move that are new.
func ofBook(b api.StockBook, n int) string {
	worth, l := stock.Worth(b, n)
	packs, cost, l2 := stock.Buy(b, []int{n, n}, n)
	good, left, l3 := stock.Ask(b)
	noted, l4 := stock.Note(b, count(n, n, n, n))
	entered, l5 := stock.Enter(b, move(api.StockKind(n), n, n, n, n))
	return show(worth, packs, cost, good, left, noted, entered, l, l2, l3, l4, l5)
}

// bookAlone writes the results of these functions if all of them have a bell.
func bookAlone(l api.Bell) string {
	none := api.StockBook{}
	return show(api.Span{}, []int{}, 0, 0, 0, none, none, l, l, l, l, l)
}

// ofThings writes the results of the functions that are asked about a good or a move.
func ofThings(b api.StockBook, n int) string {
	left, l := stock.Left(b, n, n)
	lost, l2 := stock.Lost(b, n, n, n)
	lasts, l3 := stock.Lasts(b, n, n)
	numbers, l4 := stock.Numbers(b, n)
	sure, l5 := stock.False(b, n)
	told, l6 := stock.Tell(b, n, to(n, n))
	return show(left, lost, lasts, numbers, sure, told, l, l2, l3, l4, l5, l6)
}

// thingsAlone writes the results of these functions if all of them have a bell.
func thingsAlone(l api.Bell) string {
	return show([]int{}, api.Span{}, api.Span{}, []int{}, api.Open, api.StockBook{}, l, l, l, l, l, l)
}

// P0.2: what is asked about and is not there comes before the other bells, and all of them before it is Odds that there is no history, which comes with nothing else.
func TestBellsBeforeOdds(t *testing.T) {
	for _, text := range []string{textT, textOdd} {
		b := parse(t, text)
		for _, n := range []int{math.MinInt, -1, 4, math.MaxInt} {
			if got := ofThings(b, n); got != thingsAlone(api.Missing) {
				t.Errorf("%q, %d: %s", text, n, got)
			}
		}
		for _, n := range []int{math.MinInt, -1, math.MaxInt} {
			o := api.Bound
			noted, l := stock.Note(b, count(0, n, 0, 9))
			entered, l2 := stock.Enter(b, move(api.StockBack, 0, n, 0, 0))
			worth, l3 := stock.Worth(b, n)
			packs, cost, l4 := stock.Buy(b, []int{n, 0}, 0)
			left, l5 := stock.Left(b, 0, n)
			if got := show(noted, entered, worth, packs, cost, left, l, l2, l3, l4, l5); got != show(api.StockBook{}, api.StockBook{}, api.Span{}, []int{}, 0, []int{}, o, o, o, o, o) {
				t.Errorf("%q, %d: %s", text, n, got)
			}
		}
	}
	b := parse(t, textOdd)
	// 1 is a good, a day, a rate and a move, which is none that came
	if got := ofThings(b, 1); got != strings.Replace(thingsAlone(api.Odds), "9 9 9 9 9 9", "9 9 9 9 6 9", 1) {
		t.Error(got)
	}
	if got := ofBook(b, 0); got != strings.Replace(bookAlone(api.Odds), "9 9 9 9 9", "9 9 9 9 1", 1) {
		t.Error(got)
	}
	if n, l := stock.Histories(b); n != 0 || l != api.Fine {
		t.Errorf("%d histories, bell %d", n, l)
	}
	layer().Parses(t, textOdd, 0, api.Fine)
}
