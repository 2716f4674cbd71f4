package change_test

import (
	"fmt"
	"math"
	"slices"
	"strings"
	"testing"

	"nosale/api"
	"nosale/change"
	"nosale/promises"
)

// The book D of the chapter's examples, and some more.
const (
	textD = "change 4+2+1\ndrawer 0\ndrawer 1..2\ndrawer 1\nsale 1 1+0+0 open\nsale 2 1+0+0 open\nsale 1 0+0+1 open\n"
	// no sales
	textBare = "change 5\ndrawer 0..1\n"
	// a first that is never so
	textNever = textD + "first 1 1\n"
	// two firsts that contradict each other
	textRound = textD + "first 0 1\nfirst 1 0\n"
	// counts that contradict each other
	textClash = textD + "count 0 2\ncount 2 2\n"
	// sales that are seen to be refused, or to go
	textSeen = "change 5+2\ndrawer 0..1\ndrawer 0..1\nsale 3 1+0 refused\nsale 5 1+0 went\nsale 0 0+1 went\nfirst 1 0\n"
	// as many of all as there can be
	textAll = "change 500+50+20+3\ndrawer 8..9\ndrawer 0..1\ndrawer 3..4\ndrawer 5..6\nsale 999 3+3+3+3 open\nsale 7 1+0+0+0 open\nsale 0 0+3+0+0 open\nsale 60 0+1+1+0 open\nfirst 0 1\nfirst 0 2\nfirst 0 1\nfirst 3 2\ncount 0 0..30\ncount 1 0..30\ncount 2 0..30\ncount 3 0..30\n"
)

// texts returns the texts of all books above.
func texts() []string {
	return []string{textD, textBare, textNever, textRound, textClash, textSeen, textAll}
}

// parse reads a text that has no bell.
func parse(t *testing.T, text string) api.ChangeBook {
	t.Helper()
	b, line, l := change.Parse(text)
	if l != api.Fine || line != 0 {
		t.Fatalf("%q: bell %d in line %d", text, l, line)
	}
	return b
}

// to returns the span from a to b.
func to(a, b int) api.Span { return api.Span{Low: a, High: b} }

// first returns a first.
func first(before, after int) api.ChangeFirst { return api.ChangeFirst{Before: before, After: after} }

// count returns a count.
func count(kind, low, high int) api.ChangeCount {
	return api.ChangeCount{Kind: kind, Many: to(low, high)}
}

// clone returns a book that shares no memory with b.
func clone(b api.ChangeBook) api.ChangeBook {
	b.Kinds, b.Drawer, b.Sales = slices.Clone(b.Kinds), slices.Clone(b.Drawer), slices.Clone(b.Sales)
	for i := range b.Sales {
		b.Sales[i].Paid = slices.Clone(b.Sales[i].Paid)
	}
	b.Firsts, b.Counts = slices.Clone(b.Firsts), slices.Clone(b.Counts)
	return b
}

// show writes values so that nil and empty slices look the same.
func show(values ...any) string { return fmt.Sprintf("%+v", values) }

// numbers returns numbers within and out of all bounds.
func numbers() []int {
	return []int{math.MinInt, -1, 0, 1, 2, 3, 4, 7, 99, 100, 999, 1000, math.MaxInt}
}

// lists returns lists that are coins or orders of some books, and some that are none.
func lists() [][]int {
	return [][]int{nil, {0}, {1}, {30}, {31}, {0, 1}, {1, 0}, {0, 1, 2}, {2, 0, 1}, {0, 0, 1}, {0, 1, 3}, {0, -1, 2}, {30, 0, 0}, {30, 30, 31}, {0, 1, 2, 3}, {3, 1, 0, 2}, {9, 1, 4, 6}, {math.MaxInt, math.MinInt, 0}, slices.Repeat([]int{1}, 1000)}
}

// report calls each function with a book, and writes all results.
func report(b api.ChangeBook) string {
	var out strings.Builder
	put := func(name string, values ...any) { fmt.Fprintln(&out, name, show(values...)) }
	put("CheckBook", change.CheckBook(b))
	n, l := change.Histories(b)
	put("Histories", n, l)
	sure, l := change.Runs(b)
	put("Runs", sure, l)
	list, n, l := change.Best(b)
	put("Best", list, n, l)
	list, found, l := change.Float(b)
	put("Float", list, found, l)
	list, l = change.Clash(b)
	put("Clash", list, l)
	kind, n, l := change.Ask(b)
	put("Ask", kind, n, l)
	text, l := change.Print(b)
	put("Print", text, l)
	for _, n := range numbers() {
		reportNumber(b, n, put)
	}
	for _, list := range lists() {
		reportList(b, list, put)
	}
	return out.String()
}

// reportNumber calls each function that takes a kind or a sale.
func reportNumber(b api.ChangeBook, n int, put func(name string, values ...any)) {
	list, l := change.Had(b, n)
	put("Had", n, list, l)
	list, l = change.Left(b, n)
	put("Left", n, list, l)
	sure, l := change.Goes(b, n)
	put("Goes", n, sure, l)
	for _, went := range []bool{false, true} {
		o, l := change.See(b, n, went)
		put("See", n, went, o, l)
	}
	for _, m := range []int{-1, 0, 2, math.MaxInt} {
		o, l := change.Know(b, first(n, m))
		put("Know", n, m, o, l)
		o, l = change.Note(b, count(n, 0, m))
		put("Note", n, m, o, l)
	}
}

// reportList calls each function that takes coins.
func reportList(b api.ChangeBook, list []int, put func(name string, values ...any)) {
	n, l := change.Amount(b, list)
	put("Amount", list, n, l)
	for _, n := range numbers() {
		coins, found, l := change.Give(b, list, n)
		put("Give", list, n, coins, found, l)
		coins, l = change.Cannot(b, list, n)
		put("Cannot", list, n, coins, l)
		in, out, found, l := change.Swap(b, list, n)
		put("Swap", list, n, in, out, found, l)
	}
	for _, order := range lists() {
		refused, after, l := change.Play(b, list, order)
		put("Play", list, order, refused, after, l)
		is, l := change.IsHistory(b, list, order)
		put("IsHistory", list, order, is, l)
	}
}

// layer is how this layer is held to what is promised of all of them.
func layer() promises.Layer[api.ChangeBook] {
	return promises.Layer[api.ChangeBook]{Print: change.Print, Parse: change.Parse, Show: show}
}
