package strip_test

import (
	"slices"
	"testing"

	"nosale/api"
	"nosale/strip"
)

// The chapter's examples.
func TestExamples(t *testing.T) {
	r := book(t, textR)
	list := func(l []int, s api.Bell) string { return show(l, s) }
	span := func(x api.Span, s api.Bell) string { return show(x, s) }
	number := func(n int, s api.Bell) string { return show(n, s) }
	whole := func(sold []api.StripSale, found bool, s api.Bell) string { return show(sold, found, s) }
	ask := func(kind api.StripKind, a, left int, s api.Bell) string { return show(kind, a, left, s) }
	play := func(lines []api.StripLine, s api.Bell) string { return show(lines, s) }
	fits := func(first, begin int) string {
		next := book(t, textR)
		next.First, next.Begin = first, begin
		sure, s := strip.Fits(r, next)
		return show(sure, s)
	}
	read := func(number, total string) (api.StripBook, api.Bell) {
		e := blurred(r)
		e.Number, e.Total = number, total
		return strip.Read(r, 2, e)
	}
	took, _ := strip.Note(r, api.StripCount{Kind: api.StripTook, A: 1, Many: to(65, 65)})
	both, _ := strip.Note(took, api.StripCount{Kind: api.StripMade, A: 0, Many: to(2, 2)})
	clash := book(t, textR+"sold 1 0\n")
	_, odds := read("21", "???")
	four, fine := read("?1", "04?")
	none := []api.StripSale{}
	for i, x := range []struct{ got, want string }{
		{number(strip.Histories(r)), show(6, api.Fine)},
		{list(strip.Torn(r, 1)), show([]int{1}, api.Fine)},
		{span(strip.Entries(r)), show(to(3, 3), api.Fine)},
		{list(strip.Articles(r, 2)), show([]int{1}, api.Fine)},
		{list(strip.Clerks(r, 2)), show([]int{1}, api.Fine)},
		{list(strip.Numbers(r, 2)), show([]int{1}, api.Fine)},
		{span(strip.Took(r, 1)), show(to(65, 105), api.Fine)},
		{span(strip.Took(r, 2)), show(to(0, 25), api.Fine)},
		{span(strip.Made(r, 0)), show(to(1, 2), api.Fine)},
		{list(strip.Totals(r)), show([]int{40, 55}, api.Fine)},
		{play(strip.Play(r, []int{1}, sales(0, 0, 2, 0, 1, 1))), show([]api.StripLine{{Number: 98, Total: 975}, {Number: 99, Total: 0}, {Number: 1, Total: 40}}, api.Fine)},
		{fits(2, 40), show(api.Open, api.Fine)},
		{fits(2, 41), show(api.No, api.Fine)},
		{ask(strip.Ask(r)), show(api.StripTook, 1, 2, api.Fine)},
		{whole(strip.Whole(r)), show(none, false, api.Fine)},
		{whole(strip.Whole(took)), show(none, false, api.Fine)},
		{whole(strip.Whole(both)), show(sales(0, 0, 2, 0, 1, 1), true, api.Fine)},
		{list(strip.Clash(clash)), show([]int{1}, api.Fine)},
		{show(odds, fine), show(api.Odds, api.Fine)},
		{number(strip.Histories(four)), show(4, api.Fine)},
	} {
		if x.got != x.want {
			t.Errorf("example %d: %s, want %s", i, x.got, x.want)
		}
	}
}

// P2.2: Articles, Clerks and Numbers tell what an entry can be.
func TestEntries(t *testing.T) {
	const head = "strip 99 99 0 2 2\narticle 0 25\narticle 1 25\narticle 1 35\n"
	for _, x := range []struct {
		text                      string
		item                      int
		articles, clerks, numbers []int
	}{
		{head + "entry ?? ??? ?? -1 -1\n", 0, []int{0, 1, 2}, []int{0, 1}, []int{99}},
		{head + "entry ?? ??? ?? 1 0\n", 0, []int{1, 2}, []int{0}, []int{99}},
		{head + "entry ?? ?2? ?? -1 1\n", 0, []int{0, 1}, []int{1}, []int{99}},
		{head + "entry ?? ??? 3? -1 1\n", 0, []int{2}, []int{1}, []int{99}},
		{head + "torn 0..2\nentry ?? ??? ?? -1 -1\n", 1, []int{0, 1, 2}, []int{0, 1}, []int{1, 2, 99}},
		{head + "torn 0..2\nentry 0? ??? ?? -1 -1\n", 1, []int{0, 1, 2}, []int{0, 1}, []int{1, 2}},
		// what comes behind an entry tells about it
		{head + "entry ?? ??? ?? -1 -1\nentry ?? ??? 50 -1 -1\n", 0, []int{0, 1}, []int{0, 1}, []int{99}},
		{head + "entry ?? ??? ?? -1 -1\ntorn 0..2\nentry ?? 035 70 -1 -1\n", 0, []int{2}, []int{0, 1}, []int{99}},
		// counts do as well
		{head + "entry ?? ??? ?? -1 -1\nentry ?? ??? ?? -1 -1\nmade 1 2\nsold 1 0\ntook 1 35\n", 1, []int{0, 2}, []int{1}, []int{1}},
	} {
		b := book(t, x.text)
		articles, l := strip.Articles(b, x.item)
		clerks, k := strip.Clerks(b, x.item)
		nums, m := strip.Numbers(b, x.item)
		if !slices.Equal(articles, x.articles) || !slices.Equal(clerks, x.clerks) || !slices.Equal(nums, x.numbers) || l+k+m != api.Fine {
			t.Errorf("%q: %v, %v, %v, bells %d %d %d", x.text, articles, clerks, nums, l, k, m)
		}
	}
}

// P2.2: Took, Made, Totals and Entries tell about the whole strip; without a line it ends as it begins.
func TestSpans(t *testing.T) {
	const head = "strip 9 8 90 2 2\narticle 3 7\narticle 0 20\narticle 3 40\n"
	for _, x := range []struct {
		text              string
		zero, three, made api.Span
		totals            []int
		entries           api.Span
	}{
		{head, to(0, 0), to(0, 0), to(0, 0), []int{90}, to(0, 0)},
		{head + "torn 0\n", to(0, 0), to(0, 0), to(0, 0), []int{90}, to(0, 0)},
		{head + "torn 1\n", to(0, 20), to(0, 40), to(0, 1), []int{10, 30, 97}, to(1, 1)},
		{head + "torn 0..1\ntorn 0..1\n", to(0, 40), to(0, 80), to(0, 2), []int{4, 10, 17, 30, 37, 50, 70, 90, 97}, to(0, 2)},
		{head + "torn 0..1\ntorn 0..1\nall 2\n", to(0, 40), to(0, 80), to(0, 2), []int{4, 17, 30, 37, 50, 70}, to(2, 2)},
		{head + "entry 8 0?0 ?? -1 0\ntorn 0..1\n", to(0, 40), to(0, 80), to(1, 2), []int{10, 17, 30, 37, 50, 70}, to(1, 2)},
		{head + "torn 0..2\ntook 0 10..30\ntook 3 1..39\n", to(20, 20), to(7, 7), to(0, 2), []int{17}, to(2, 2)},
	} {
		b := book(t, x.text)
		zero, l := strip.Took(b, 0)
		three, k := strip.Took(b, 3)
		made, m := strip.Made(b, 0)
		totals, n := strip.Totals(b)
		long, o := strip.Entries(b)
		if zero != x.zero || three != x.three || made != x.made || !slices.Equal(totals, x.totals) || long != x.entries || l+k+m+n+o != api.Fine {
			t.Errorf("%q: %v, %v, %v, %v, %v", x.text, zero, three, made, totals, long)
		}
	}
}

// P2.2: Whole finds the sales if they are sure, even if it is not sure where lines are missing.
func TestWhole(t *testing.T) {
	const head = "strip 9 1 0 1 2\narticle 0 1\narticle 0 2\n"
	for _, x := range []struct {
		text  string
		sold  []api.StripSale
		found bool
		l     api.Bell
	}{
		{head, nil, true, api.Fine},
		{head + "entry ? ??? 2 -1 1\n", sales(1, 1), true, api.Fine},
		{head + "entry ? ??? 2 -1 -1\n", nil, false, api.Fine},
		{head + "entry ? ??? ? -1 1\n", nil, false, api.Fine},
		{head + "torn 0..1\ntorn 0..1\nall 1\nmade 0 1\nsold 1 1\n", sales(1, 0), true, api.Fine},
		{head + "torn 0..1\ntorn 0..1\nmade 0 0..1\nmade 1 0\nsold 1 0..1\nsold 0 0\n", nil, false, api.Fine},
		{head + "torn 2\nsold 1 1\nmade 0 2\n", nil, false, api.Fine},
		{head + "torn 2\nsold 1 2\nmade 0 2\n", sales(1, 0, 1, 0), true, api.Fine},
		{head + "torn 0..2\nall 0\n", nil, true, api.Fine},
		// the shorter strip is the beginning of the longer one, and its sales are the first ones that there are
		{"strip 9 1 0 1 1\narticle 0 1\ntorn 1..2\n", nil, false, api.Fine},
		{head + "entry ? ??? 3 -1 -1\n", nil, false, api.Odds},
	} {
		if sold, found, l := strip.Whole(book(t, x.text)); !slices.Equal(sold, x.sold) || found != x.found || l != x.l {
			t.Errorf("%q: %v, %v, bell %d", x.text, sold, found, l)
		}
	}
}

// P2.2: Fits compares the number and the total with which the next strip begins.
func TestFits(t *testing.T) {
	const head = "strip 9 9 0 2 1\narticle 0 40\narticle 0 60\n"
	for _, x := range []struct {
		text         string
		first, begin int
		want         api.Sure
	}{
		// without a line the strip begins again
		{head, 9, 0, api.Yes}, {head, 1, 0, api.No}, {head, 9, 40, api.No},
		// behind Last comes 1
		{head + "entry ? 040 ?? -1 -1\n", 1, 40, api.Yes}, {head + "entry ? 040 ?? -1 -1\n", 9, 40, api.No}, {head + "entry ? 040 ?? -1 -1\n", 1, 0, api.No},
		{head + "entry ? 0?0 ?? -1 -1\n", 1, 40, api.Open}, {head + "entry ? 0?0 ?? -1 -1\n", 1, 60, api.Open}, {head + "entry ? 0?0 ?? -1 -1\n", 2, 60, api.No},
		{head + "torn 0..1\n", 9, 0, api.Open}, {head + "torn 0..1\n", 1, 60, api.Open}, {head + "torn 0..1\n", 9, 60, api.No},
		// totals are compared as they are printed
		{head + "torn 2\nsold 0 1\n", 2, 0, api.Yes},
	} {
		b := book(t, x.text)
		next := book(t, head)
		next.First, next.Begin = x.first, x.begin
		if sure, l := strip.Fits(b, next); sure != x.want || l != api.Fine {
			t.Errorf("%q: %d and %d fit: %d, bell %d, want %d", x.text, x.first, x.begin, sure, l, x.want)
		}
	}
	next := book(t, head)
	next.Articles = nil
	if sure, l := strip.Fits(book(t, head), next); sure != api.Open || l != api.Count {
		t.Errorf("next with a bell: %d, bell %d", sure, l)
	}
	// what else the next strip is makes no difference
	if sure, l := strip.Fits(book(t, head), book(t, "strip 99 9 0 4 2\narticle 5 5\nentry 11 ??? ???? -1 -1\n")); sure != api.Yes || l != api.Fine {
		t.Errorf("another register: %d, bell %d", sure, l)
	}
}
