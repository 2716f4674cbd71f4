package strip_test

import (
	"math"
	"slices"
	"strings"
	"testing"

	"nosale/api"
	"nosale/strip"
)

// bellCase is a change of the book R, and the bell that it has then.
type bellCase struct {
	name   string
	change func(b *api.StripBook)
	want   api.Bell
}

// registerCases are those of the head of the book, and of articles.
func registerCases() []bellCase {
	set := func(last, first, begin, digits, clerks int) func(b *api.StripBook) {
		return func(b *api.StripBook) {
			b.Last, b.First, b.Begin, b.Digits, b.Clerks, b.Items = last, first, begin, digits, clerks, nil
		}
	}
	articles := func(list ...api.StripArticle) func(b *api.StripBook) {
		return func(b *api.StripBook) { b.Articles, b.Counts = list, nil }
	}
	return []bellCase{
		{"the book R", func(b *api.StripBook) {}, api.Fine},
		{"last at its least", set(9, 9, 0, 1, 1), api.Fine},
		{"last too small", set(8, 8, 0, 1, 1), api.Bound},
		{"last at the limit", set(api.MaxStripLast, api.MaxStripLast, 0, 1, 1), api.Fine},
		{"last above the limit", set(api.MaxStripLast+1, 1, 0, 1, 1), api.Bound},
		{"last very small", set(math.MinInt, 1, 0, 1, 1), api.Bound},
		{"first 1", set(9, 1, 0, 1, 1), api.Fine},
		{"first 0", set(9, 0, 0, 1, 1), api.Bound},
		{"first below 0", set(9, math.MinInt, 0, 1, 1), api.Bound},
		{"first above last", set(9, 10, 0, 1, 1), api.Bound},
		{"begin at its most", set(9, 1, 9, 1, 1), api.Fine},
		{"begin with too many digits", set(9, 1, 10, 1, 1), api.Bound},
		{"begin at the limit", set(9, 1, 9999, api.MaxStripDigits, 1), api.Fine},
		{"begin above the limit", set(9, 1, 10000, api.MaxStripDigits, 1), api.Bound},
		{"begin below 0", set(9, 1, -1, 1, 1), api.Bound},
		{"no digits", set(9, 1, 0, 0, 1), api.Bound},
		{"digits above the limit", set(9, 1, 0, api.MaxStripDigits+1, 1), api.Bound},
		{"digits very great", set(9, 1, 0, math.MaxInt, 1), api.Bound},
		{"digits very small", set(9, 1, 0, math.MinInt, 1), api.Bound},
		{"clerks at the limit", set(9, 1, 0, 1, api.MaxStripClerks), api.Fine},
		{"no clerk", set(9, 1, 0, 1, 0), api.Bound},
		{"clerks above the limit", set(9, 1, 0, 1, api.MaxStripClerks+1), api.Bound},
		{"clerks very great", set(9, 1, 0, 1, math.MaxInt), api.Bound},
		{"no article", articles(), api.Count},
		{"one article", articles(api.StripArticle{Dept: 0, Price: 1}), api.Fine},
		{"articles at the limits", articles(api.StripArticle{Dept: 0, Price: 1}, api.StripArticle{Dept: 0, Price: api.MaxStripPrice}, api.StripArticle{Dept: api.MaxStripDept, Price: 1}), api.Fine},
		{"articles above the limit", articles(make([]api.StripArticle, api.MaxStripArticles+1)...), api.Count},
		{"department below 0", articles(api.StripArticle{Dept: -1, Price: 1}), api.Bound},
		{"department above the limit", articles(api.StripArticle{Dept: api.MaxStripDept + 1, Price: 1}), api.Bound},
		{"price 0", articles(api.StripArticle{Dept: 1}), api.Bound},
		{"price above the limit", articles(api.StripArticle{Dept: 1, Price: api.MaxStripPrice + 1}), api.Bound},
		{"an article twice", articles(api.StripArticle{Dept: 1, Price: 1}, api.StripArticle{Dept: 1, Price: 2}, api.StripArticle{Dept: 1, Price: 1}), api.Twice},
		{"an article twice before one out of bounds", articles(api.StripArticle{Dept: 1, Price: 1}, api.StripArticle{Dept: 1, Price: 1}, api.StripArticle{Dept: -1, Price: 1}), api.Twice},
		{"an article out of bounds before one twice", articles(api.StripArticle{Dept: 1, Price: 0}, api.StripArticle{Dept: 1, Price: 0}, api.StripArticle{Dept: -1, Price: 1}), api.Bound},
	}
}

// itemCases are those of items.
func itemCases() []bellCase {
	torn := func(f func(e *api.StripItem)) func(b *api.StripBook) {
		return func(b *api.StripBook) { f(&b.Items[1]) }
	}
	entry := func(f func(e *api.StripItem)) func(b *api.StripBook) {
		return func(b *api.StripBook) { f(&b.Items[0]) }
	}
	number := func(s string) func(b *api.StripBook) {
		return entry(func(e *api.StripItem) { e.Number = s })
	}
	amount := func(s string) func(b *api.StripBook) {
		return entry(func(e *api.StripItem) { e.Amount = s })
	}
	total := func(s string) func(b *api.StripBook) {
		return entry(func(e *api.StripItem) { e.Total = s })
	}
	return []bellCase{
		{"torn 0", torn(func(e *api.StripItem) { e.Many = to(0, 0) }), api.Fine},
		{"torn 2", torn(func(e *api.StripItem) { e.Many = to(2, 2) }), api.Fine},
		{"torn below 0", torn(func(e *api.StripItem) { e.Many = to(-1, 1) }), api.Bound},
		{"torn all below 0", torn(func(e *api.StripItem) { e.Many = to(-2, -1) }), api.Bound},
		{"torn above the limit", torn(func(e *api.StripItem) { e.Many = to(0, api.MaxStripMissing+1) }), api.Bound},
		{"torn very great", torn(func(e *api.StripItem) { e.Many = to(math.MinInt, math.MaxInt) }), api.Bound},
		{"torn no span", torn(func(e *api.StripItem) { e.Many = to(2, 1) }), api.Bound},
		{"torn with a number", torn(func(e *api.StripItem) { e.Number = "?" }), api.Shape},
		{"torn with an amount", torn(func(e *api.StripItem) { e.Amount = "025" }), api.Shape},
		{"torn with a total", torn(func(e *api.StripItem) { e.Total = "0" }), api.Shape},
		{"torn with a department", torn(func(e *api.StripItem) { e.Dept = -1 }), api.Shape},
		{"torn with a clerk", torn(func(e *api.StripItem) { e.Clerk = 1 }), api.Shape},
		{"torn, out of bounds and without its form", torn(func(e *api.StripItem) { e.Many, e.Number = to(2, 1), "1" }), api.Bound},
		{"entry with many", entry(func(e *api.StripItem) { e.Many = to(0, 1) }), api.Bound},
		{"entry with many 1", entry(func(e *api.StripItem) { e.Many = to(1, 1) }), api.Bound},
		{"entry with many, and without its form", entry(func(e *api.StripItem) { e.Many, e.Number = to(1, 1), "" }), api.Bound},
		{"number unread", number("??"), api.Fine}, {"number that cannot be", number("00"), api.Fine}, {"number too short", number("9"), api.Shape}, {"number too long", number("098"), api.Shape}, {"number empty", number(""), api.Shape}, {"number with a letter", number("9x"), api.Shape}, {"number with a blank", number(" 9"), api.Shape}, {"number with a sign", number("-9"), api.Shape}, {"number with a byte below 0", number("/0"), api.Shape}, {"number with a byte above 9", number(":0"), api.Shape}, {"number of one rune with two bytes", number("é"), api.Shape}, {"number that is no text", number("\xff\xfe"), api.Shape},
		{"amount unread", amount("???"), api.Fine}, {"amount that cannot be", amount("999"), api.Fine}, {"amount too short", amount("25"), api.Shape}, {"amount too long", amount("0025"), api.Shape}, {"amount with a point", amount("0.5"), api.Shape},
		{"total unread", total("???"), api.Fine}, {"total too short", total("75"), api.Shape}, {"total too long", total("0975"), api.Shape}, {"total with a letter", total("9x5"), api.Shape}, {"total very long", total(strings.Repeat("9", 100000)), api.Shape},
		{"department below -1", entry(func(e *api.StripItem) { e.Dept = -2 }), api.Bound},
		{"department of no article", entry(func(e *api.StripItem) { e.Dept = api.MaxStripDept }), api.Fine},
		{"department above the limit", entry(func(e *api.StripItem) { e.Dept = api.MaxStripDept + 1 }), api.Bound},
		{"clerk unread", entry(func(e *api.StripItem) { e.Clerk = -1 }), api.Fine},
		{"clerk below -1", entry(func(e *api.StripItem) { e.Clerk = -2 }), api.Bound},
		{"clerk that is none", entry(func(e *api.StripItem) { e.Clerk = 2 }), api.Bound},
		{"entry without its form, and out of bounds", entry(func(e *api.StripItem) { e.Total, e.Dept = "", 10 }), api.Shape},
		{"a torn item before an entry", func(b *api.StripBook) { b.Items[1].Clerk, b.Items[2].Clerk = 1, 9 }, api.Shape},
		{"digits of other lengths", func(b *api.StripBook) {
			b.Last, b.Digits, b.Begin = 9, 1, 0
			b.First = 9
			b.Items = []api.StripItem{{Number: "9", Amount: "???", Total: "5"}}
		}, api.Fine},
		{"number of the digits that first has", func(b *api.StripBook) { b.Last = 100 }, api.Shape},
	}
}

// manyCases are those of how many items and counts there are, and of counts.
func manyCases() []bellCase {
	items := func(entries int, torn ...api.Span) func(b *api.StripBook) {
		return func(b *api.StripBook) {
			e := b.Items[0]
			b.Items = nil
			for range entries {
				b.Items = append(b.Items, e)
			}
			for _, many := range torn {
				b.Items = append(b.Items, api.StripItem{Torn: true, Many: many})
			}
		}
	}
	count := func(kind api.StripKind, a, low, high int) func(b *api.StripBook) {
		return func(b *api.StripBook) {
			b.Counts = []api.StripCount{{Kind: kind, A: a, Many: to(low, high)}}
		}
	}
	counts := func(n int) func(b *api.StripBook) {
		return func(b *api.StripBook) { b.Counts = slices.Repeat(b.Counts[:1], n) }
	}
	return []bellCase{
		{"no item", items(0), api.Fine},
		{"entries at the limit", items(api.MaxStripEntries), api.Fine},
		{"entries above the limit", items(api.MaxStripEntries + 1), api.Count},
		{"items at the limit", items(api.MaxStripEntries, to(0, 1), to(1, 1)), api.Fine},
		{"torn items at the limit", items(0, slices.Repeat([]api.Span{to(0, 0)}, api.MaxStripItems)...), api.Fine},
		{"items above the limit", items(0, slices.Repeat([]api.Span{to(0, 0)}, api.MaxStripItems+1)...), api.Count},
		{"items above the limit before one out of bounds", items(0, slices.Repeat([]api.Span{to(3, 2)}, api.MaxStripItems+1)...), api.Count},
		{"missing lines at the limit", items(1, to(0, 2)), api.Fine},
		{"missing lines above the limit", items(1, to(0, 2), to(0, 1)), api.Count},
		{"missing lines perhaps above the limit", items(1, to(0, 1), to(0, 1), to(0, 1)), api.Count},
		{"an item out of bounds before too many missing lines", items(1, to(0, 2), to(0, 2), to(0, 3)), api.Bound},
		{"no count", counts(0), api.Fine},
		{"counts at the limit", counts(api.MaxStripCounts), api.Fine},
		{"counts above the limit", counts(api.MaxStripCounts + 1), api.Count},
		{"too many entries before a count out of bounds", func(b *api.StripBook) { items(5)(b); b.Counts[0].Kind = 9 }, api.Count},
		{"kind below 0", count(-1, 0, 0, 0), api.Bound},
		{"kind that is not listed", count(4, 0, 0, 0), api.Bound},
		{"kind very great", count(math.MaxInt, 0, 0, 0), api.Bound},
		{"took of another article's department", count(api.StripTook, 2, 0, 0), api.Fine},
		{"took of no article's department", count(api.StripTook, 3, 0, 0), api.Missing},
		{"took of a department below 0", count(api.StripTook, -1, 0, 0), api.Missing},
		{"made of the last clerk", count(api.StripMade, 1, 0, 0), api.Fine},
		{"made of no clerk", count(api.StripMade, 2, 0, 0), api.Missing},
		{"made of a clerk below 0", count(api.StripMade, -1, 0, 0), api.Missing},
		{"sold of the last article", count(api.StripSold, 2, 0, 0), api.Fine},
		{"sold of no article", count(api.StripSold, 3, 0, 0), api.Missing},
		{"sold of an article below 0", count(api.StripSold, -1, 0, 0), api.Missing},
		{"all", count(api.StripAll, 0, 0, 0), api.Fine},
		{"all of 1", count(api.StripAll, 1, 0, 0), api.Bound},
		{"all of -1", count(api.StripAll, -1, 0, 0), api.Bound},
		{"count at the limits", count(api.StripTook, 1, 0, api.MaxStripCount), api.Fine},
		{"count at the limit", count(api.StripTook, 1, api.MaxStripCount, api.MaxStripCount), api.Fine},
		{"count below 0", count(api.StripTook, 1, -1, 0), api.Bound},
		{"count above the limit", count(api.StripTook, 1, 0, api.MaxStripCount+1), api.Bound},
		{"count no span", count(api.StripTook, 1, 1, 0), api.Bound},
		{"count missing before it is out of bounds", count(api.StripTook, 3, 1, 0), api.Missing},
		{"the first count decides", func(b *api.StripBook) {
			b.Counts = []api.StripCount{{Kind: api.StripMade, A: 9}, {Kind: 9}}
		}, api.Missing},
	}
}

func bellCases() []bellCase { return slices.Concat(registerCases(), itemCases(), manyCases()) }

// P2.1, P0.2: CheckBook returns the first bell of a book, and so does each function that takes one, with nothing else.
func TestBells(t *testing.T) {
	for _, x := range bellCases() {
		b := book(t, textR)
		x.change(&b)
		if l := strip.CheckBook(b); l != x.want {
			t.Errorf("%s: bell %d, want %d", x.name, l, x.want)
		}
		if x.want != api.Fine {
			onlyBell(t, x.name, b, x.want)
		}
	}
	onlyBell(t, "no book", api.StripBook{}, api.Bound)
}

// onlyBell tells whether each function returns the bell of a book first, and zero values.
func onlyBell(t *testing.T, name string, b api.StripBook, want api.Bell) {
	t.Helper()
	lines, l := strip.Play(b, nil, nil)
	is, l2 := strip.IsHistory(b, nil, nil)
	n, l3 := strip.Histories(b)
	torn, l4 := strip.Torn(b, -1)
	articles, l5 := strip.Articles(b, -1)
	clerks, l6 := strip.Clerks(b, -1)
	nums, l7 := strip.Numbers(b, -1)
	took, l8 := strip.Took(b, -1)
	made, l9 := strip.Made(b, -1)
	totals, l10 := strip.Totals(b)
	long, l11 := strip.Entries(b)
	sold, found, l12 := strip.Whole(b)
	sure, l13 := strip.Fits(b, api.StripBook{Articles: make([]api.StripArticle, 9)})
	clash, l14 := strip.Clash(b)
	kind, a, left, l15 := strip.Ask(b)
	noted, l16 := strip.Note(b, api.StripCount{Kind: -1})
	read, l17 := strip.Read(b, -1, api.StripItem{Torn: true})
	text, l18 := strip.Print(b)
	for i, l := range []api.Bell{l, l2, l3, l4, l5, l6, l7, l8, l9, l10, l11, l12, l13, l14, l15, l16, l17, l18} {
		if l != want {
			t.Errorf("%s: function %d has the bell %d, want %d", name, i, l, want)
		}
	}
	got := show(lines, is, n, torn, articles, clerks, nums, took, made, totals, long, sold, found, sure, clash, kind, a, left, noted, read, text)
	none := []int{}
	zero := show([]api.StripLine{}, false, 0, none, none, none, none, api.Span{}, api.Span{}, none, api.Span{}, []api.StripSale{}, false, api.Open, none, api.StripTook, 0, 0, api.StripBook{}, api.StripBook{}, "")
	if got != zero {
		t.Errorf("%s: %s together with a bell", name, got)
	}
}

// P0.2: what is asked about and is not there is Missing, before it is Odds that there is no history; and Odds comes with nothing else.
func TestMissingBeforeOdds(t *testing.T) {
	odd := book(t, textOdd)
	for _, b := range []api.StripBook{book(t, textR), odd} {
		for _, item := range []int{math.MinInt, -1, len(b.Items), 99, math.MaxInt} {
			onlyMissing(t, b, item, item)
		}
		for item, e := range b.Items {
			if e.Torn {
				onlyMissing(t, b, -1, item)
			} else {
				onlyMissing(t, b, item, -1)
			}
		}
		for _, n := range []int{math.MinInt, -1, 3, 9, math.MaxInt} {
			took, l := strip.Took(b, n)
			made, k := strip.Made(b, n)
			if took != to(0, 0) || l != api.Missing || made != to(0, 0) || k != api.Missing {
				t.Errorf("department %d: %v, %d; clerk: %v, %d", n, took, l, made, k)
			}
		}
	}
	if _, l := strip.Fits(odd, api.StripBook{}); l != api.Bound {
		t.Errorf("Fits of a book without history and one with a bell: %d", l)
	}
	if _, l := strip.Fits(book(t, textR), odd); l != api.Fine {
		t.Errorf("Fits of a next book without history: %d", l)
	}
	onlyOdds(t, odd)
	clash := book(t, textClash)
	if l, s := strip.Torn(clash, 0); len(l) > 0 || s != api.Odds {
		t.Errorf("Torn: %v, bell %d", l, s)
	}
}

// onlyMissing tells whether an index is no torn item, and another one no entry.
func onlyMissing(t *testing.T, b api.StripBook, torn, entry int) {
	t.Helper()
	list, l := strip.Torn(b, torn)
	articles, l2 := strip.Articles(b, entry)
	clerks, l3 := strip.Clerks(b, entry)
	nums, l4 := strip.Numbers(b, entry)
	read, l5 := strip.Read(b, entry, api.StripItem{Torn: true})
	if show(list, articles, clerks, nums, read) != show([]int{}, []int{}, []int{}, []int{}, api.StripBook{}) || show(l, l2, l3, l4, l5) != show(api.Missing, api.Missing, api.Missing, api.Missing, api.Missing) {
		t.Errorf("%v, items %d and %d: %d %d %d %d %d", b.Items, torn, entry, l, l2, l3, l4, l5)
	}
}

// onlyOdds tells whether all functions that need a history return Odds, and the others do not; the item 0 of the book is an entry.
func onlyOdds(t *testing.T, b api.StripBook) {
	t.Helper()
	articles, l := strip.Articles(b, 0)
	clerks, l2 := strip.Clerks(b, 0)
	nums, l3 := strip.Numbers(b, 0)
	took, l4 := strip.Took(b, b.Articles[0].Dept)
	made, l5 := strip.Made(b, 0)
	totals, l6 := strip.Totals(b)
	long, l7 := strip.Entries(b)
	sold, found, l8 := strip.Whole(b)
	sure, l9 := strip.Fits(b, b)
	kind, a, left, l10 := strip.Ask(b)
	noted, l11 := strip.Note(b, api.StripCount{Kind: api.StripAll, Many: to(0, 9)})
	read, l12 := strip.Read(b, 0, blurred(b))
	for i, l := range []api.Bell{l, l2, l3, l4, l5, l6, l7, l8, l9, l10, l11, l12} {
		if l != api.Odds {
			t.Errorf("function %d has the bell %d", i, l)
		}
	}
	none := []int{}
	got := show(articles, clerks, nums, took, made, totals, long, sold, found, sure, kind, a, left, noted, read)
	if zero := show(none, none, none, api.Span{}, api.Span{}, none, api.Span{}, []api.StripSale{}, false, api.Open, api.StripTook, 0, 0, api.StripBook{}, api.StripBook{}); got != zero {
		t.Errorf("%s together with Odds", got)
	}
	if n, l := strip.Histories(b); n != 0 || l != api.Fine {
		t.Errorf("Histories: %d, bell %d", n, l)
	}
	if text, l := strip.Print(b); text == "" || l != api.Fine {
		t.Errorf("Print: bell %d", l)
	}
}
