package strip_test

import (
	"slices"
	"testing"

	"nosale/api"
	"nosale/dice"
	"nosale/oracle"
	"nosale/strip"
)

// sales returns sales of articles by clerks.
func sales(pairs ...int) []api.StripSale {
	var list []api.StripSale
	for i := 0; i < len(pairs); i += 2 {
		list = append(list, api.StripSale{Article: pairs[i], Clerk: pairs[i+1]})
	}
	return list
}

// P2.1: Play returns number and total of each line; behind Last comes 1, and totals lose what does not fit.
func TestPlay(t *testing.T) {
	nines := book(t, textAll)
	for i, x := range []struct {
		b    api.StripBook
		many []int
		sold []api.StripSale
		want []api.StripLine
	}{
		{book(t, textR), []int{1}, sales(0, 0, 2, 0, 1, 1), []api.StripLine{{Number: 98, Total: 975}, {Number: 99, Total: 0}, {Number: 1, Total: 40}}},
		{book(t, textR), []int{0}, sales(1, 1, 1, 1), []api.StripLine{{Number: 98, Total: 990}, {Number: 99, Total: 30}}},
		{book(t, textBare), nil, nil, nil},
		{book(t, textBare), []int{}, []api.StripSale{}, []api.StripLine{}},
		// many can be what the torn item excludes
		{book(t, textTwo), []int{2, 0}, sales(1, 0, 1, 0, 0, 1), []api.StripLine{{Number: 8, Total: 7}, {Number: 9, Total: 4}, {Number: 1, Total: 4}}},
		{nines, []int{2, 2}, sales(0, 0, 0, 0, 0, 0, 0, 0, 0, 0, 0, 0, 0, 0, 0, 0), []api.StripLine{{Number: 997, Total: 989}, {Number: 998, Total: 1988}, {Number: 999, Total: 2987}, {Number: 1, Total: 3986}, {Number: 2, Total: 4985}, {Number: 3, Total: 5984}, {Number: 4, Total: 6983}, {Number: 5, Total: 7982}}},
	} {
		if lines, l := strip.Play(x.b, x.many, x.sold); !slices.Equal(lines, x.want) || l != api.Fine {
			t.Errorf("case %d: %v, bell %d, want %v", i, lines, l, x.want)
		}
	}
}

// P2.1: a price above what a total can show is taken off as often as it takes; and more lines are played than a strip can have.
func TestPlayLong(t *testing.T) {
	b := book(t, "strip 9 8 3 1 1\narticle 1 999\ntorn 0\ntorn 0\ntorn 0\ntorn 0\ntorn 0\ntorn 0\n")
	var want []api.StripLine
	for i := range 12 {
		want = append(want, api.StripLine{Number: (7+i)%9 + 1, Total: (3 + 999*(i+1)) % 10})
	}
	sold := make([]api.StripSale, 12)
	if lines, l := strip.Play(b, []int{2, 2, 2, 2, 2, 2}, sold); !slices.Equal(lines, want) || l != api.Fine {
		t.Errorf("%v, bell %d, want %v", lines, l, want)
	}
	if is, l := strip.IsHistory(b, []int{2, 2, 2, 2, 2, 2}, sold); is || l != api.Fine {
		t.Errorf("a strip that is too long: %v, bell %d", is, l)
	}
}

// P2.1, P0.2: Play and IsHistory return their bells in order.
func TestPlayBells(t *testing.T) {
	for i, x := range []struct {
		text string
		many []int
		sold []api.StripSale
		want api.Bell
	}{
		{textR, []int{1}, sales(0, 0, 2, 0, 1, 1), api.Fine},
		{textR, nil, sales(0, 0, 1, 0), api.Count},
		{textR, []int{0, 0}, sales(0, 0, 1, 0), api.Count},
		{textR, []int{9, 9}, nil, api.Count},
		{textR, []int{2}, sales(0, 0, 0, 0, 0, 0, 0, 0), api.Fine},
		{textR, []int{3}, sales(0, 0, 0, 0, 0, 0, 0, 0, 0, 0), api.Bound},
		{textR, []int{-1}, sales(0, 0), api.Bound},
		{textR, []int{1 << 62}, nil, api.Bound},
		{textR, []int{-1 << 63}, nil, api.Bound},
		{textTwo, []int{-1, 3}, sales(9, 9, 9, 9), api.Bound},
		{textTwo, []int{2, -1}, nil, api.Bound},
		{textR, []int{1}, sales(0, 0, 1, 0), api.Count},
		{textR, []int{1}, sales(0, 0, 1, 0, 0, 0, 0, 0), api.Count},
		{textR, []int{0}, nil, api.Count},
		{textR, []int{0}, sales(9, 9), api.Count},
		{textR, []int{0}, sales(0, 0, 3, 0), api.Missing},
		{textR, []int{0}, sales(-1, 0, 0, 0), api.Missing},
		{textR, []int{0}, sales(0, 0, 0, 2), api.Missing},
		{textR, []int{0}, sales(0, -1, 0, 0), api.Missing},
		{textR, []int{0}, sales(0, 0, 1<<62, -1<<63), api.Missing},
		{textBare, []int{0}, nil, api.Count},
		{textBare, nil, sales(0, 0), api.Count},
		{textOdd, nil, sales(0, 0), api.Fine},
	} {
		b := book(t, x.text)
		lines, l := strip.Play(b, x.many, x.sold)
		is, k := strip.IsHistory(b, x.many, x.sold)
		if l != x.want || k != x.want {
			t.Errorf("case %d: bells %d and %d, want %d", i, l, k, x.want)
		}
		if l != api.Fine && (len(lines) > 0 || is) {
			t.Errorf("case %d: %v and %v together with a bell", i, lines, is)
		}
	}
}

// P2.1: IsHistory looks at each of what an entry and a count say.
func TestIsHistory(t *testing.T) {
	sold := sales(0, 0, 2, 0, 1, 1)
	for i, x := range []struct {
		change func(b *api.StripBook)
		want   bool
	}{
		{func(b *api.StripBook) {}, true},
		{func(b *api.StripBook) { b.Items[1].Many = to(0, 0) }, false},
		{func(b *api.StripBook) { b.Items[1].Many = to(2, 2) }, false},
		{func(b *api.StripBook) { b.Items[1].Many = to(1, 1) }, true},
		{func(b *api.StripBook) { b.Items[2].Number = "01" }, true},
		{func(b *api.StripBook) { b.Items[2].Number = "0?" }, true},
		{func(b *api.StripBook) { b.Items[2].Number = "?0" }, false},
		{func(b *api.StripBook) { b.Items[2].Number = "10" }, false},
		{func(b *api.StripBook) { b.Items[2].Amount = "040" }, true},
		{func(b *api.StripBook) { b.Items[2].Amount = "?2?" }, false},
		{func(b *api.StripBook) { b.Items[2].Total = "04?" }, true},
		{func(b *api.StripBook) { b.Items[2].Total = "1??" }, false},
		{func(b *api.StripBook) { b.Items[2].Dept = 1 }, true},
		{func(b *api.StripBook) { b.Items[2].Dept = 2 }, false},
		{func(b *api.StripBook) { b.Items[2].Clerk = -1 }, true},
		{func(b *api.StripBook) { b.Items[2].Clerk = 0 }, false},
		{func(b *api.StripBook) { b.Counts[0].Many = to(65, 65) }, true},
		{func(b *api.StripBook) { b.Counts[0].Many = to(0, 64) }, false},
		{func(b *api.StripBook) { b.Counts[0].Many = to(66, 9999) }, false},
		{func(b *api.StripBook) { b.Counts = append(b.Counts, api.StripCount{Kind: api.StripMade, A: 1}) }, false},
		{func(b *api.StripBook) { b.First, b.Items[0].Number, b.Items[2].Number = 97, "97", "99" }, true},
	} {
		b := book(t, textR)
		x.change(&b)
		if is, l := strip.IsHistory(b, []int{1}, sold); is != x.want || l != api.Fine {
			t.Errorf("case %d: %v, bell %d", i, is, l)
		}
	}
}

// P2.1: Play and IsHistory agree with the oracle on all that can be handed in.
func TestPlayAgainstOracle(t *testing.T) {
	d := dice.Dice(1)
	yes, no := 0, 0
	for i := range 120 {
		b, _ := anyBook(&d, i%3 == 0)
		all := pasts(b)
		wide := clone(b)
		for j, e := range b.Items {
			if e.Torn && d.Roll(2) == 0 {
				wide.Items[j].Many = to(0, 2)
			}
		}
		for _, many := range lays(wide) {
			if len(itemsOf(b, many)) > 3 {
				continue
			}
			for _, sold := range salesOf(b, len(itemsOf(b, many))) {
				p := past{many, sold}
				var want []api.StripLine
				for _, l := range linesOf(b, p) {
					want = append(want, api.StripLine{Number: l.number, Total: l.total})
				}
				if lines, l := strip.Play(b, many, sold); !slices.Equal(lines, want) || l != api.Fine {
					t.Fatalf("%+v: %v is played as %v, want %v", b, p, lines, want)
				}
				ought := slices.ContainsFunc(all, func(o past) bool { return slices.Equal(o.many, many) && slices.Equal(o.sold, sold) })
				if is, l := strip.IsHistory(b, many, sold); is != ought || l != api.Fine {
					t.Fatalf("%+v: %v is a history: %v, bell %d", b, p, is, l)
				}
				yes, no = yes+len(all), no+1
			}
		}
	}
	if yes == 0 || no < 1000 {
		t.Errorf("only %d histories, and %d tries", yes, no)
	}
}

// P2.1: Histories and Torn.
func TestHistories(t *testing.T) {
	for _, x := range []struct {
		text string
		item int
		many int
		torn []int
		l    api.Bell
	}{
		{textR, 1, 6, []int{1}, api.Fine},
		{textBare, 0, 1, nil, api.Missing},
		{textOdd, 0, 0, nil, api.Missing},
		{textClash, 0, 0, nil, api.Odds},
		// of one article and one clerk: none, one, or two lines
		{"strip 9 1 0 1 1\narticle 0 1\ntorn 0..2\n", 0, 3, []int{0, 1, 2}, api.Fine},
		// histories differ by where a line is missing
		{"strip 9 1 0 1 1\narticle 0 1\ntorn 0..1\ntorn 0..1\n", 1, 4, []int{0, 1}, api.Fine},
		{"strip 9 1 0 1 1\narticle 0 1\ntorn 0..1\ntorn 0..1\nall 1\n", 0, 2, []int{0, 1}, api.Fine},
		// and by the clerk of a line that is missing
		{"strip 9 1 0 1 2\narticle 0 1\narticle 0 2\ntorn 1..2\n", 0, 4 + 16, []int{1, 2}, api.Fine},
		{"strip 9 1 0 1 2\narticle 0 1\narticle 0 2\ntorn 0\n", 0, 1, []int{0}, api.Fine},
		// the number tells how many are missing
		{"strip 9 1 0 1 1\narticle 0 1\ntorn 0..2\nentry 3 ??? ? -1 -1\n", 0, 1, []int{2}, api.Fine},
		{"strip 9 9 0 1 1\narticle 0 1\ntorn 0..2\nentry 1 ??? ? -1 -1\n", 0, 1, []int{1}, api.Fine},
		// and so does the total
		{"strip 9 1 5 1 1\narticle 0 4\ntorn 0..2\nentry ? ??? 7 -1 -1\n", 0, 1, []int{2}, api.Fine},
		{"strip 9 1 5 1 1\narticle 0 4\ntorn 0..2\nentry ? ??? 8 -1 -1\n", 0, 0, nil, api.Odds},
		// an entry of a department that no article has
		{"strip 9 1 5 1 1\narticle 0 4\nentry ? ??? ? 7 -1\ntorn 0..1\n", 1, 0, nil, api.Odds},
	} {
		b := book(t, x.text)
		if n, l := strip.Histories(b); n != x.many || l != api.Fine {
			t.Errorf("%q: %d histories, bell %d, want %d", x.text, n, l, x.many)
		}
		if list, l := strip.Torn(b, x.item); !slices.Equal(list, x.torn) || l != x.l {
			t.Errorf("%q: Torn %v, bell %d, want %v", x.text, list, l, x.torn)
		}
	}
}

// P2.1: the greatest book there can be has each choice of six lines.
func TestGreatestBook(t *testing.T) {
	b := book(t, "strip 999 998 9950 4 2\narticle 1 25\narticle 1 40\narticle 2 25\ntorn 0..1\nentry ??? ??? ???? -1 -1\nentry ??? ??? ???? -1 -1\ntorn 0..1\nentry ??? ??? ???? -1 -1\nentry ??? ??? ???? -1 -1\n")
	if n, l := strip.Histories(b); n != 46656+2*7776+1296 || l != api.Fine {
		t.Errorf("%d histories, bell %d", n, l)
	}
	if s, l := strip.Took(b, 1); s != to(0, 240) || l != api.Fine {
		t.Errorf("Took: %v, bell %d", s, l)
	}
	if list, l := strip.Numbers(b, 5); !slices.Equal(list, []int{2, 3, 4}) || l != api.Fine {
		t.Errorf("Numbers: %v, bell %d", list, l)
	}
}

// P2.1 to P2.3: all that is told agrees with the oracle.
func TestAgainstOracle(t *testing.T) {
	d := dice.Dice(2)
	odd, found := 0, 0
	for i := range 400 {
		b, _ := anyBook(&d, i%2 == 0)
		printed := printedPasts(b)
		all := countedPasts(b, printed)
		if n, l := strip.Histories(b); n != len(all) || l != api.Fine {
			t.Fatalf("%+v: %d histories, bell %d, want %d", b, n, l, len(all))
		}
		counts, bell := clashOf(b, printed)
		if list, l := strip.Clash(b); !slices.Equal(list, counts) || l != bell {
			t.Errorf("%+v: Clash %v, bell %d, want %v", b, list, l, counts)
		}
		if len(all) == 0 {
			odd++
			continue
		}
		if _, whole, _ := strip.Whole(b); whole {
			found++
		}
		itemsAgainstOracle(t, b, all)
		bookAgainstOracle(t, b, all)
	}
	if odd < 20 || found < 20 {
		t.Errorf("only %d books without history, and %d that are whole", odd, found)
	}
}

// itemsAgainstOracle looks at what is told about items.
func itemsAgainstOracle(t *testing.T, b api.StripBook, all []past) {
	t.Helper()
	check := func(name string, item int, got []int, l api.Bell, number func(p past) int) {
		t.Helper()
		if want := oracle.Numbers(all, number); !slices.Equal(got, want) || l != api.Fine {
			t.Errorf("%+v: %s of %d is %v, bell %d, want %v", b, name, item, got, l, want)
		}
	}
	for item, e := range b.Items {
		if e.Torn {
			list, l := strip.Torn(b, item)
			check("Torn", item, list, l, func(p past) int { return tornOf(b, p, item) })
			continue
		}
		list, l := strip.Articles(b, item)
		check("Articles", item, list, l, func(p past) int { return lineOf(b, p, item).sale.Article })
		list, l = strip.Clerks(b, item)
		check("Clerks", item, list, l, func(p past) int { return lineOf(b, p, item).sale.Clerk })
		list, l = strip.Numbers(b, item)
		check("Numbers", item, list, l, func(p past) int { return lineOf(b, p, item).number })
	}
}

// bookAgainstOracle looks at what is told about the whole strip.
func bookAgainstOracle(t *testing.T, b api.StripBook, all []past) {
	t.Helper()
	for _, q := range questions(b) {
		want := spanOf(oracle.Numbers(all, func(p past) int { return counted(b, p, q.kind, q.a) }))
		got, l := want, api.Fine
		switch q.kind {
		case api.StripTook:
			got, l = strip.Took(b, q.a)
		case api.StripMade:
			got, l = strip.Made(b, q.a)
		case api.StripAll:
			got, l = strip.Entries(b)
		}
		if got != want || l != api.Fine {
			t.Errorf("%+v: count %v is %v, bell %d, want %v", b, q, got, l, want)
		}
	}
	want := oracle.Numbers(all, func(p past) int { _, total := endOf(b, p); return total })
	if list, l := strip.Totals(b); !slices.Equal(list, want) || l != api.Fine {
		t.Errorf("%+v: Totals %v, bell %d, want %v", b, list, l, want)
	}
	same := true
	for _, p := range all {
		same = same && slices.Equal(p.sold, all[0].sold)
	}
	sold, found, l := strip.Whole(b)
	if found != same || l != api.Fine || found && !slices.Equal(sold, all[0].sold) || !found && len(sold) > 0 {
		t.Errorf("%+v: Whole %v, %v, bell %d", b, sold, found, l)
	}
	q, left := askOf(b, all)
	if kind, a, n, l := strip.Ask(b); kind != q.kind || a != q.a || n != left || l != api.Fine {
		t.Errorf("%+v: Ask %d, %d, %d, bell %d, want %v, %d", b, kind, a, n, l, q, left)
	}
	fitsAgainstOracle(t, b, all)
}

// fitsAgainstOracle looks at all strips that can be behind this one, and at some that cannot.
func fitsAgainstOracle(t *testing.T, b api.StripBook, all []past) {
	t.Helper()
	type end struct{ number, total int }
	ends := map[end]int{}
	for _, p := range all {
		number, total := endOf(b, p)
		ends[end{number, total}]++
	}
	next := clone(b)
	next.Items, next.Counts = nil, nil
	numbers := oracle.Numbers(all, func(p past) int { n, _ := endOf(b, p); return n })
	totals := oracle.Numbers(all, func(p past) int { _, total := endOf(b, p); return total })
	for _, n := range append(numbers, 1, b.First, b.Last) {
		for _, total := range append(totals, 0, b.Begin) {
			next.First, next.Begin = n, total
			want := api.Open
			switch ends[end{n, total}] {
			case 0:
				want = api.No
			case len(all):
				want = api.Yes
			}
			if sure, l := strip.Fits(b, next); sure != want || l != api.Fine {
				t.Errorf("%+v: with %d and %d it fits: %d, bell %d, want %d", b, n, total, sure, l, want)
			}
		}
	}
}
