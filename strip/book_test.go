package strip_test

import (
	"fmt"
	"slices"
	"strings"
	"testing"

	"nosale/api"
	"nosale/promises"
	"nosale/strip"
)

// The book R of the chapter's examples, and some more.
const (
	textR = "strip 99 98 950 3 2\narticle 1 25\narticle 1 40\narticle 2 25\nentry 98 025 975 1 0\ntorn 0..2\nentry ?1 0?0 0?? -1 1\ntook 1 60..110\n"
	// two stretches are torn out side by side, and no department or clerk can be read
	textTwo = "strip 9 8 0 1 2\narticle 0 10\narticle 3 7\ntorn 0..1\ntorn 0..1\nentry ? 0?? ? -1 -1\nall 1..2\nsold 1 1..9\n"
	// all kinds of counts, and all items that there can be
	textAll = "strip 999 997 9990 4 2\narticle 9 999\narticle 0 1\narticle 9 1\nentry 997 999 0989 9 1\nentry ??? ??? ???? -1 -1\ntorn 1\nentry 00? ??1 ??9? -1 0\ntorn 0..1\nentry ??? 001 ???? 0 -1\ntook 9 0..9999\nmade 1 2..3\nsold 0 1..3\nall 5..6\n"
	// a strip without a line
	textBare = "strip 9 9 5 1 1\narticle 4 3\n"
	// the entry contradicts itself: there is no history, whatever is counted
	textOdd = "strip 99 98 950 3 2\narticle 1 25\narticle 1 40\nentry 98 025 976 1 0\nall 1\n"
	// the counts contradict each other
	textClash = "strip 99 1 0 2 1\narticle 1 25\narticle 2 40\ntorn 0..2\nall 0..2\nsold 0 1\nall 1..2\nsold 1 2\n"
)

// texts returns the texts of all books above.
func texts() []string { return []string{textR, textTwo, textAll, textBare, textOdd, textClash} }

// book parses a text that has no bell.
func book(t *testing.T, text string) api.StripBook {
	t.Helper()
	b, line, l := strip.Parse(text)
	if l != api.Fine || line != 0 {
		t.Fatalf("%q: bell %d in line %d", text, l, line)
	}
	return b
}

// to returns the span from a to b.
func to(a, b int) api.Span { return api.Span{Low: a, High: b} }

// clone returns a book that shares no memory with b.
func clone(b api.StripBook) api.StripBook {
	b.Articles = slices.Clone(b.Articles)
	b.Items = slices.Clone(b.Items)
	b.Counts = slices.Clone(b.Counts)
	return b
}

// show writes values so that nil and empty slices look the same.
func show(values ...any) string { return fmt.Sprintf("%+v", values) }

// blurred returns an entry of the book of which nothing can be read.
func blurred(b api.StripBook) api.StripItem {
	mask := func(long int) string { return strings.Repeat("?", max(0, min(long, 9))) }
	return api.StripItem{Number: mask(len(fmt.Sprint(b.Last))), Amount: mask(3), Total: mask(b.Digits), Dept: -1, Clerk: -1}
}

// numbers returns numbers within and out of all bounds.
func numbers() []int {
	return []int{-1 << 63, -2, -1, 0, 1, 2, 3, 4, 5, 6, 9, 10, 1<<63 - 1}
}

// counts returns counts, some of which have a bell in any book.
func counts() []api.StripCount {
	var list []api.StripCount
	for _, kind := range []api.StripKind{-1 << 63, -1, api.StripTook, api.StripMade, api.StripSold, api.StripAll, 4, 1<<63 - 1} {
		for _, a := range []int{-1, 0, 1, 2, 9, 1<<63 - 1} {
			for _, many := range []api.Span{to(0, 0), to(1, 2), to(0, 9999), to(2, 1), to(0, 10000), to(-1<<63, 1<<63-1)} {
				list = append(list, api.StripCount{Kind: kind, A: a, Many: many})
			}
		}
	}
	return list
}

// entries returns items for Read, some of which have a bell in any book.
func entries(b api.StripBook) []api.StripItem {
	plain := blurred(b)
	list := []api.StripItem{plain, {}, {Torn: true}, {Torn: true, Many: to(0, 1)}}
	change := func(f func(e *api.StripItem)) {
		e := plain
		f(&e)
		list = append(list, e)
	}
	for _, n := range numbers() {
		change(func(e *api.StripItem) { e.Dept = n })
		change(func(e *api.StripItem) { e.Clerk = n })
		change(func(e *api.StripItem) { e.Many.Low = n })
	}
	for _, s := range []string{"", "0", "9?", "?1", "0?0", "040", "00?9", "x", "é", "\xff?", "-1"} {
		change(func(e *api.StripItem) { e.Number = s })
		change(func(e *api.StripItem) { e.Amount = s })
		change(func(e *api.StripItem) { e.Total = s })
	}
	return list
}

// plays returns lists of missing lines and of sales, some of which have a bell.
func plays() (many [][]int, sold [][]api.StripSale) {
	many = [][]int{nil, {}, {0}, {1}, {2}, {3}, {-1}, {1, 0}, {1, 1}, {0, 0, 0}, make([]int, 20), {1 << 62}, {2, 2}}
	sold = [][]api.StripSale{nil, {}, {{}}, {{}, {}}, {{}, {Article: 2}, {Article: 1, Clerk: 1}}, {{}, {}, {}, {}}, {{Article: 9}}, {{}, {Clerk: 2}}, {{Article: -1}, {}, {}}, make([]api.StripSale, 40)}
	return many, sold
}

// report calls each function with a book, and writes all results.
func report(b api.StripBook) string {
	var out strings.Builder
	put := func(name string, values ...any) { fmt.Fprintln(&out, name, show(values...)) }
	put("CheckBook", strip.CheckBook(b))
	n, l := strip.Histories(b)
	put("Histories", n, l)
	list, l := strip.Totals(b)
	put("Totals", list, l)
	span, l := strip.Entries(b)
	put("Entries", span, l)
	sold, found, l := strip.Whole(b)
	put("Whole", sold, found, l)
	list, l = strip.Clash(b)
	put("Clash", list, l)
	kind, a, left, l := strip.Ask(b)
	put("Ask", kind, a, left, l)
	text, l := strip.Print(b)
	put("Print", text, l)
	for _, n := range numbers() {
		reportNumber(b, n, put)
	}
	for _, c := range counts() {
		o, l := strip.Note(b, c)
		put("Note", c, o, l)
	}
	reportPlays(b, put)
	for _, next := range []api.StripBook{b, {}, {Last: 9, First: 1, Digits: 1, Clerks: 1, Articles: []api.StripArticle{{Price: 1}}}} {
		sure, l := strip.Fits(b, next)
		put("Fits", sure, l)
	}
	return out.String()
}

// reportNumber calls each function that takes an item, a department or a clerk.
func reportNumber(b api.StripBook, n int, put func(name string, values ...any)) {
	list, l := strip.Torn(b, n)
	put("Torn", n, list, l)
	list, l = strip.Articles(b, n)
	put("Articles", n, list, l)
	list, l = strip.Clerks(b, n)
	put("Clerks", n, list, l)
	list, l = strip.Numbers(b, n)
	put("Numbers", n, list, l)
	span, l := strip.Took(b, n)
	put("Took", n, span, l)
	span, l = strip.Made(b, n)
	put("Made", n, span, l)
	for _, e := range entries(b) {
		o, l := strip.Read(b, n, e)
		put("Read", n, e, o, l)
	}
}

// reportPlays calls each function that takes sales.
func reportPlays(b api.StripBook, put func(name string, values ...any)) {
	many, sold := plays()
	for _, m := range many {
		for _, s := range sold {
			lines, l := strip.Play(b, m, s)
			put("Play", m, s, lines, l)
			is, l := strip.IsHistory(b, m, s)
			put("IsHistory", m, s, is, l)
		}
	}
}

// layer is how this layer is held to what is promised of all of them.
func layer() promises.Layer[api.StripBook] {
	return promises.Layer[api.StripBook]{Print: strip.Print, Parse: strip.Parse, HasShape: true, Show: show}
}
