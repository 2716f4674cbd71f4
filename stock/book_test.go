package stock_test

import (
	"fmt"
	"math"
	"slices"
	"strings"
	"testing"

	"nosale/api"
	"nosale/promises"
	"nosale/stock"
)

// The book T of the chapter's examples, and some more.
const (
	textT = "stock 10 1\ngood tea 5 4 3\ngood rice 2 10 5..6\nmove came 0 2 4\nmove sold 0 3 2..3\nmove lost 1 4 0..1\nmove came 1 5 10\ncount 0 10 4..5\ncount 1 10 5\n"
	// nothing happened
	textBare = "stock 1 0\ngood tea 0 1 0\n"
	// more was sold than there was
	textShort = "stock 3 2\ngood tea 1 1 0\nmove sold 0 1 1\ncount 0 3 0\n"
	// no note can be false
	textOdd = "stock 10 0\ngood tea 5 4 3\ngood rice 2 10 5..6\nmove came 0 2 4\nmove sold 0 3 2..3\nmove lost 1 4 0..1\nmove came 1 5 10\ncount 0 10 4..5\ncount 1 10 5\n"
	// two counts contradict each other, and none of them by itself
	textTwo = "stock 5 0\ngood oil 9 2 4..6\nmove lost 0 2 1..2\ncount 0 0 4\ncount 0 0 4..6\ncount 0 5 4\n"
	// what is sold on a day came on the same day, and is entered first
	textDay = "stock 2 1\ngood a 1 1 0..1\ngood b 1 1 2\nmove sold 0 1 3\nmove given 1 1 0..2\nmove came 0 1 2..3\nmove back 1 1 1\ncount 0 1 0..9\n"
	// all kinds of moves
	textKinds = "stock 20 2\ngood flour 3 20 10\ngood salt 0 1 0\nmove came 0 1 20\nmove sold 0 2 5..6\nmove lost 0 2 0..2\nmove given 0 9 1\nmove back 0 20 1..2\nmove came 1 20 7\ncount 0 20 24..26\n"
	// as many of all as there can be
	textAll = "stock 99 2\ngood a 999 20 97..99\ngood b1 0 1 0..2\ngood cccccccccc 1 9 50\nmove came 0 1 97..99\nmove came 1 1 99\nmove lost 0 50 0..2\nmove came 1 98 1..3\nmove came 2 99 3\nmove given 2 99 53\ncount 0 0 97..98\ncount 0 99 0..999\ncount 1 99 99..101\ncount 2 99 0\n"
)

// texts returns the texts of all books above.
func texts() []string {
	return []string{textT, textBare, textShort, textOdd, textTwo, textDay, textKinds, textAll}
}

// layer is how this layer is held to what is promised of all of them.
func layer() promises.Layer[api.StockBook] {
	return promises.Layer[api.StockBook]{Print: stock.Print, Parse: stock.Parse, Show: show}
}

// parse reads a text that has no bell.
func parse(t *testing.T, text string) api.StockBook {
	t.Helper()
	b, line, l := stock.Parse(text)
	if l != api.Fine || line != 0 {
		t.Fatalf("%q: bell %d in line %d", text, l, line)
	}
	return b
}

// with is the text of T with something else in the place of something.
func with(old, next string) string { return strings.Replace(textT, old, next, 1) }

// to returns the span from a to b.
func to(a, b int) api.Span { return api.Span{Low: a, High: b} }

// count returns a count.
func count(good, day, low, high int) api.StockCount {
	return api.StockCount{Good: good, Day: day, Many: to(low, high)}
}

// move returns a move.
func move(kind api.StockKind, good, day, low, high int) api.StockMove {
	return api.StockMove{Kind: kind, Good: good, Day: day, Many: to(low, high)}
}

// clone returns a book that shares no memory with b.
func clone(b api.StockBook) api.StockBook {
	b.Goods, b.Moves, b.Counts = slices.Clone(b.Goods), slices.Clone(b.Moves), slices.Clone(b.Counts)
	return b
}

// show writes values so that nil and empty slices look the same.
func show(values ...any) string { return fmt.Sprintf("%+v", values) }

// numbers returns numbers within and out of all bounds.
func numbers() []int {
	return []int{math.MinInt, -1, 0, 1, 2, 3, 10, 99, 100, 999, math.MaxInt}
}

// pastCases returns what can have happened in some books, and what cannot.
func pastCases() []past {
	return []past{
		{}, {first: []int{0}}, {first: []int{0}, many: []int{1}}, {[]int{3, 5}, []int{4, 2, 0, 10}, []int{3}}, {[]int{3, 5}, []int{4, 2, 0, 10}, nil}, {[]int{3, 6}, []int{4, 3, 1, 10}, []int{0, 3}}, {[]int{0, 2}, []int{3, 0, 3, 1}, nil}, {[]int{5}, []int{1}, nil}, {[]int{10, 0}, []int{20, 5, 0, 1, 1, 7}, nil}, {[]int{98, 0, 50}, []int{99, 99, 1, 3, 3, 53}, []int{0, 3}},
		{[]int{3, math.MaxInt}, []int{4, 2, 0, 10}, nil}, {[]int{3, 5}, []int{4, 2, math.MinInt, 10}, nil}, {[]int{3, 5}, []int{4, 2, 0, 10}, []int{1}}, {[]int{3, 5}, []int{4, 2, 0, 10}, []int{3, 0}}, {[]int{3, 5}, []int{4, 2, 0, 10}, []int{math.MaxInt}}, {[]int{3, 5}, []int{4, 2, 0, 10}, []int{math.MinInt}}, {make([]int, 1000), make([]int, 1000), make([]int, 1000)},
	}
}

// report calls each function with a book, and writes all results.
func report(b api.StockBook) string {
	var out strings.Builder
	put := func(name string, values ...any) { fmt.Fprintln(&out, name, show(values...)) }
	put("CheckBook", stock.CheckBook(b))
	n, l := stock.Histories(b)
	put("Histories", n, l)
	list, l := stock.Clash(b)
	put("Clash", list, l)
	list, l = stock.Blame(b)
	put("Blame", list, l)
	good, n, l := stock.Ask(b)
	put("Ask", good, n, l)
	text, l := stock.Print(b)
	put("Print", text, l)
	for _, p := range pastCases() {
		left, low, l := stock.Play(b, p.first, p.many, p.lies)
		is, l2 := stock.IsHistory(b, p.first, p.many, p.lies)
		put("Play, IsHistory", left, low, is, l, l2)
	}
	for _, rates := range [][]int{nil, {1}, {2, 3}, {2, 3, 0}, {99, 100}, {math.MaxInt, math.MinInt}, make([]int, 1000)} {
		for _, days := range []int{math.MinInt, 0, 4, 100} {
			packs, cost, l := stock.Buy(b, rates, days)
			put("Buy", packs, cost, l)
		}
	}
	for _, n := range numbers() {
		reportNumber(b, n, put)
	}
	return out.String()
}

// reportNumber calls each function that takes a good, a move or a day.
func reportNumber(b api.StockBook, n int, put func(name string, values ...any)) {
	list, l := stock.Numbers(b, n)
	sure, l2 := stock.False(b, n)
	worth, l3 := stock.Worth(b, n)
	put("Numbers, False, Worth", n, list, sure, worth, l, l2, l3)
	for _, m := range []int{math.MinInt, 0, 1, 10, math.MaxInt} {
		left, l := stock.Left(b, n, m)
		lasts, l2 := stock.Lasts(b, n, m)
		lost, l3 := stock.Lost(b, 0, n, m)
		also, l4 := stock.Lost(b, n, 1, m)
		put("Left, Lasts, Lost", n, m, left, lasts, lost, also, l, l2, l3, l4)
		o, l := stock.Note(b, count(n, m, 0, 9))
		put("Note", n, m, o, l)
		o, l = stock.Note(b, count(0, 1, n, m))
		put("Note", n, m, o, l)
		o, l = stock.Tell(b, n, to(0, m))
		put("Tell", n, m, o, l)
		o, l = stock.Enter(b, move(api.StockBack, n, m, 0, 1))
		put("Enter", n, m, o, l)
		o, l = stock.Enter(b, move(api.StockKind(n), 0, 10, 0, m))
		put("Enter", n, m, o, l)
	}
}
