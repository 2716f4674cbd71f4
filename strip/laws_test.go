package strip_test

import (
	"math"
	"slices"
	"testing"

	"nosale/api"
	"nosale/dice"
	"nosale/promises"
	"nosale/strip"
)

// P0.1: each function returns, whatever it is called with, and returns the same to several goroutines; it changes nothing.
func TestAlwaysTheSame(t *testing.T) {
	d := dice.Dice(4)
	books := []api.StripBook{{}}
	for _, text := range texts() {
		books = append(books, book(t, text))
	}
	for _, x := range bellCases() {
		b := book(t, textR)
		x.change(&b)
		books = append(books, b)
	}
	for i := range 10 {
		b, _ := anyBook(&d, i%2 == 0)
		books = append(books, b)
	}
	layer().AlwaysTheSame(t, report, books...)
}

// P0.1: numbers that are very great or very small, strings of any bytes, and slices that are very long, have a bell.
func TestGarbage(t *testing.T) {
	d := dice.Dice(5)
	odd := []int{math.MinInt, -3, -1, 0, 0, 1, 1, 2, 3, 9, 10, 99, math.MaxInt}
	some := func() int { return odd[d.Roll(len(odd))] }
	texts := []string{"", "?", "0", "??", "01", "???", "025", "????", "\xff", "é", "0123456789"}
	text := func() string { return texts[d.Roll(len(texts))] }
	for range 100 {
		b := api.StripBook{Last: some(), First: some(), Begin: some(), Digits: some(), Clerks: some()}
		if d.Roll(3) > 0 {
			b = anyRegister(&d)
		}
		for range d.Roll(3) {
			b.Articles = append(b.Articles, api.StripArticle{Dept: some(), Price: some()})
		}
		for range d.Roll(4) {
			b.Items = append(b.Items, api.StripItem{Torn: d.Roll(2) == 0, Many: to(some(), some()), Number: text(), Amount: text(), Total: text(), Dept: some(), Clerk: some()})
		}
		for range d.Roll(3) {
			b.Counts = append(b.Counts, api.StripCount{Kind: api.StripKind(some()), A: some(), Many: to(some(), some())})
		}
		report(b)
	}
	long := book(t, textR)
	long.Items = make([]api.StripItem, 1000000)
	if _, l := strip.Histories(long); l != api.Count {
		t.Errorf("a million items: bell %d", l)
	}
	if _, l := strip.Play(book(t, textR), make([]int, 1000000), nil); l != api.Count {
		t.Errorf("a million torn items: bell %d", l)
	}
	if _, l := strip.Play(book(t, textR), []int{0}, make([]api.StripSale, 1000000)); l != api.Count {
		t.Errorf("a million sales: bell %d", l)
	}
}

// R3: it makes no difference whether a slice is nil or empty.
func TestNilOrEmpty(t *testing.T) {
	none := book(t, textBare)
	empty := book(t, textBare)
	none.Items, none.Counts = nil, nil
	empty.Items, empty.Counts = []api.StripItem{}, []api.StripCount{}
	if report(empty) != report(none) {
		t.Error("empty slices and none make a difference")
	}
	none.Articles, empty.Articles = nil, []api.StripArticle{}
	if report(empty) != report(none) {
		t.Error("empty articles and none make a difference")
	}
}

// R4: books that are returned share no memory with those that are handed in.
func TestNoSharedMemory(t *testing.T) {
	spoil := func(b api.StripBook) {
		for i := range b.Articles {
			b.Articles[i].Price = 77
		}
		for i := range b.Items {
			b.Items[i].Number = "77"
		}
		for i := range b.Counts {
			b.Counts[i].A = 77
		}
	}
	b := book(t, textR)
	// room behind the elements must not be written to
	b.Counts = append(make([]api.StripCount, 0, 9), b.Counts...)
	room := b.Counts[:2]
	noted, l := strip.Note(b, api.StripCount{Kind: api.StripAll, Many: to(3, 3)})
	read, k := strip.Read(b, 2, blurred(b))
	if l != api.Fine || k != api.Fine || room[1] != (api.StripCount{}) {
		t.Fatal(l, k, room)
	}
	spoil(noted)
	spoil(read)
	if text, _ := strip.Print(b); text != textR {
		t.Errorf("a result shares memory with the book: %q", text)
	}
	noted, _ = strip.Note(b, api.StripCount{Kind: api.StripAll, Many: to(3, 3)})
	read, _ = strip.Read(b, 2, blurred(b))
	spoil(b)
	one, _ := strip.Print(noted)
	two, _ := strip.Print(read)
	if one != textR+"all 3\n" || two != textR {
		t.Errorf("the book shares memory with a result: %q, %q", one, two)
	}
}

// P2.5, P0.4: what was really sold is a history, and is among all that is told.
func TestWhatReallyHappened(t *testing.T) {
	d := dice.Dice(6)
	for range 400 {
		b, truth := anyBook(&d, false)
		if is, l := strip.IsHistory(b, truth.many, truth.sold); !is || l != api.Fine {
			t.Fatalf("%+v: what was sold is no history: %v, bell %d", b, truth, l)
		}
		has := func(name string, list []int, l api.Bell, n int) {
			t.Helper()
			if !slices.Contains(list, n) || l != api.Fine {
				t.Errorf("%+v, %v: %s is %v without %d, bell %d", b, truth, name, list, n, l)
			}
		}
		for item, e := range b.Items {
			if e.Torn {
				list, l := strip.Torn(b, item)
				has("Torn", list, l, tornOf(b, truth, item))
				continue
			}
			line := lineOf(b, truth, item)
			list, l := strip.Articles(b, item)
			has("Articles", list, l, line.sale.Article)
			list, l = strip.Clerks(b, item)
			has("Clerks", list, l, line.sale.Clerk)
			list, l = strip.Numbers(b, item)
			has("Numbers", list, l, line.number)
		}
		totals, l := strip.Totals(b)
		number, total := endOf(b, truth)
		has("Totals", totals, l, total)
		next := clone(b)
		next.First, next.Begin = number, total
		if sure, l := strip.Fits(b, next); sure == api.No || l != api.Fine {
			t.Errorf("%+v, %v: what is behind it does not fit: %d, bell %d", b, truth, sure, l)
		}
		if sold, found, _ := strip.Whole(b); found && !slices.Equal(sold, truth.sold) {
			t.Errorf("%+v: Whole is %v, but sold was %v", b, sold, truth.sold)
		}
		if list, l := strip.Clash(b); len(list) > 0 || l != api.Fine {
			t.Errorf("%+v: what really happened clashes: %v, bell %d", b, list, l)
		}
		realCounts(t, b, truth)
	}
}

// realCounts looks at the spans in which what is really counted is.
func realCounts(t *testing.T, b api.StripBook, truth past) {
	t.Helper()
	for _, q := range questions(b) {
		span, l := to(0, api.MaxStripCount), api.Fine
		switch q.kind {
		case api.StripTook:
			span, l = strip.Took(b, q.a)
		case api.StripMade:
			span, l = strip.Made(b, q.a)
		case api.StripAll:
			span, l = strip.Entries(b)
		}
		n := counted(b, truth, q.kind, q.a)
		if n < span.Low || n > span.High || l != api.Fine {
			t.Errorf("%+v: %v is %d, but is told to be in %v, bell %d", b, q, n, span, l)
		}
		// it can be noted and leaves a history
		if len(b.Counts) < api.MaxStripCounts {
			if _, l := strip.Note(b, api.StripCount{Kind: q.kind, A: q.a, Many: to(n, n)}); l != api.Fine {
				t.Errorf("%+v: %v cannot be %d: bell %d", b, q, n, l)
			}
		}
	}
}

// P2.6: each number that is told is that of a history, which is left once it is noted or read.
func TestReached(t *testing.T) {
	d := dice.Dice(7)
	for range 300 {
		b, _ := anyBook(&d, true)
		if n, _ := strip.Histories(b); n == 0 || len(b.Counts) == api.MaxStripCounts {
			continue
		}
		reach := func(c api.StripCount) {
			t.Helper()
			if _, l := strip.Note(b, c); l != api.Fine {
				t.Errorf("%+v: %+v is not reached: bell %d", b, c, l)
			}
		}
		for _, q := range questions(b) {
			span := to(0, 0)
			switch q.kind {
			case api.StripTook:
				span, _ = strip.Took(b, q.a)
			case api.StripMade:
				span, _ = strip.Made(b, q.a)
			case api.StripAll:
				span, _ = strip.Entries(b)
			default:
				continue
			}
			reach(api.StripCount{Kind: q.kind, A: q.a, Many: to(span.Low, span.Low)})
			reach(api.StripCount{Kind: q.kind, A: q.a, Many: to(span.High, span.High)})
		}
		for item, e := range b.Items {
			if e.Torn {
				tornIsReached(t, b, item)
			} else {
				entryIsReached(t, b, item)
			}
		}
	}
}

// tornIsReached looks at how many lines can be missing.
func tornIsReached(t *testing.T, b api.StripBook, item int) {
	t.Helper()
	list, _ := strip.Torn(b, item)
	for n := range api.MaxStripMissing + 1 {
		if n < b.Items[item].Many.Low || n > b.Items[item].Many.High {
			continue
		}
		o := clone(b)
		o.Items[item].Many = to(n, n)
		left, l := strip.Histories(o)
		if slices.Contains(list, n) != (left > 0) || l != api.Fine {
			t.Errorf("%+v: %d of %v are missing at %d with %d histories, bell %d", b, n, list, item, left, l)
		}
	}
}

// entryIsReached looks at the articles and clerks of an entry.
func entryIsReached(t *testing.T, b api.StripBook, item int) {
	t.Helper()
	list, _ := strip.Articles(b, item)
	for _, a := range list {
		e := blurred(b)
		e.Dept = b.Articles[a].Dept
		if _, l := strip.Read(b, item, e); l != api.Fine {
			t.Errorf("%+v: the entry %d cannot be the article %d: bell %d", b, item, a, l)
		}
	}
	list, _ = strip.Clerks(b, item)
	for c := range b.Clerks {
		e := blurred(b)
		e.Clerk = c
		want := api.Odds
		if slices.Contains(list, c) {
			want = api.Fine
		}
		if _, l := strip.Read(b, item, e); l != want {
			t.Errorf("%+v: the entry %d by the clerk %d of %v: bell %d", b, item, c, list, l)
		}
	}
}

// P2.7: the least sums of all departments together are no more than what any strip has, the greatest no less; so it is with the sales of all clerks.
func TestSums(t *testing.T) {
	d := dice.Dice(8)
	for i := range 300 {
		b, _ := anyBook(&d, i%2 == 0)
		all := pasts(b)
		if len(all) == 0 {
			continue
		}
		var took, made api.Span
		for _, q := range questions(b) {
			switch q.kind {
			case api.StripTook:
				s, _ := strip.Took(b, q.a)
				took = to(took.Low+s.Low, took.High+s.High)
			case api.StripMade:
				s, _ := strip.Made(b, q.a)
				made = to(made.Low+s.Low, made.High+s.High)
			}
		}
		for _, p := range all {
			sum := 0
			for _, s := range p.sold {
				sum += b.Articles[s.Article].Price
			}
			if sum < took.Low || sum > took.High || len(p.sold) < made.Low || len(p.sold) > made.High {
				t.Errorf("%+v: %v is not within %v and %v", b, p, took, made)
			}
		}
	}
}

// noMore tells whether o, in which more is known than in b, makes nothing possible that was not, and takes back nothing that was sure.
func noMore(t *testing.T, b, o api.StripBook) {
	t.Helper()
	before, _ := strip.Histories(b)
	if n, _ := strip.Histories(o); n < 1 || n > before {
		t.Errorf("%+v, %+v: %d histories, then %d", b, o, before, n)
	}
	within := func(name string, few, all []int) {
		t.Helper()
		if len(few) == 0 && len(all) > 0 || slices.ContainsFunc(few, func(n int) bool { return !slices.Contains(all, n) }) {
			t.Errorf("%+v, %+v: %s was %v, then %v", b, o, name, all, few)
		}
	}
	lists := []func(b api.StripBook, item int) ([]int, api.Bell){strip.Torn, strip.Articles, strip.Clerks, strip.Numbers}
	for item := range b.Items {
		for _, list := range lists {
			all, _ := list(b, item)
			few, _ := list(o, item)
			within("a list", few, all)
		}
	}
	all, _ := strip.Totals(b)
	few, _ := strip.Totals(o)
	within("Totals", few, all)
	for _, a := range b.Articles {
		wide, _ := strip.Took(b, a.Dept)
		if s, _ := strip.Took(o, a.Dept); s.Low < wide.Low || s.High > wide.High {
			t.Errorf("%+v, %+v: Took was %v, then %v", b, o, wide, s)
		}
	}
	sold, found, _ := strip.Whole(b)
	if now, still, _ := strip.Whole(o); found && (!still || !slices.Equal(now, sold)) {
		t.Errorf("%+v, %+v: Whole was %v, then %v", b, o, sold, now)
	}
	for _, total := range all {
		next := clone(b)
		next.Begin = total
		was, _ := strip.Fits(b, next)
		if now, _ := strip.Fits(o, next); was != api.Open && now != was {
			t.Errorf("%+v, %+v: Fits was %d, then %d", b, o, was, now)
		}
	}
}

// P2.8, P0.6: what is noted or read never adds a history, nor takes back what was sure; once it is known what Ask asks, no more are left than it says.
func TestKnowingMore(t *testing.T) {
	d := dice.Dice(9)
	asked := 0
	for range 250 {
		b, truth := anyBook(&d, false)
		kind, a, left, _ := strip.Ask(b)
		if n, _ := strip.Histories(b); kind == -1 && left != n {
			t.Errorf("%+v: %d histories, but Ask tells %d", b, n, left)
		}
		if len(b.Counts) < api.MaxStripCounts {
			o, l := strip.Note(b, anyCount(&d, b, truth))
			if l != api.Fine {
				t.Fatalf("%+v: what is counted cannot be noted: bell %d", b, l)
			}
			noMore(t, b, o)
			if kind >= 0 {
				asked++
				n := counted(b, truth, kind, a)
				o, l := strip.Note(b, api.StripCount{Kind: kind, A: a, Many: to(n, n)})
				if many, _ := strip.Histories(o); many > left || l != api.Fine {
					t.Errorf("%+v: %d histories are left, but Ask tells %d, bell %d", b, many, left, l)
				}
				noMore(t, b, o)
			}
		}
		for item, e := range b.Items {
			if e.Torn {
				continue
			}
			line := lineOf(b, truth, item)
			e := blur(&d, api.StripItem{Number: line.Number, Amount: line.Amount, Total: line.Total, Dept: b.Articles[line.sale.Article].Dept, Clerk: line.sale.Clerk})
			o, l := strip.Read(b, item, e)
			if l != api.Fine {
				t.Fatalf("%+v: what is printed cannot be read: %+v, bell %d", b, e, l)
			}
			noMore(t, b, o)
		}
	}
	if asked < 50 {
		t.Errorf("only %d books were asked", asked)
	}
}

// P2.8: counts that clash do so alone, and no fewer do.
func TestClashAlone(t *testing.T) {
	d := dice.Dice(10)
	clashes := map[int]int{}
	for range 1500 {
		b, _ := anyBook(&d, true)
		list, l := strip.Clash(b)
		if l != api.Fine {
			if n, _ := strip.Histories(alone(b, nil)); n != 0 || l != api.Short {
				t.Errorf("%+v: bell %d", b, l)
			}
			continue
		}
		n, _ := strip.Histories(b)
		if (len(list) > 0) != (n == 0) {
			t.Errorf("%+v: %d histories, but %v clash", b, n, list)
		}
		clashes[len(list)]++
		promises.Clash(t, show(b), len(b.Counts), list, func(some []int) int {
			n, _ := strip.Histories(alone(b, some))
			return n
		})
	}
	if clashes[1] < 20 || clashes[2] < 20 {
		t.Errorf("there were too few clashes: %v", clashes)
	}
}

// P2.9: a strip that is cut into two fits together again.
func TestSpliced(t *testing.T) {
	d := dice.Dice(11)
	sures := map[api.Sure]int{}
	for i := range 500 {
		b, truth := anyStrip(&d, 4)
		for j, e := range b.Items {
			if !e.Torn && i%2 == 0 {
				b.Items[j] = blur(&d, e)
			}
		}
		for cut := range len(b.Items) + 1 {
			first, second := clone(b), clone(b)
			first.Items, second.Items = first.Items[:cut], second.Items[cut:]
			torn := 0
			for _, e := range first.Items {
				if e.Torn {
					torn++
				}
			}
			part := past{many: truth.many[:torn]}
			part.sold = truth.sold[:len(itemsOf(first, part.many))]
			second.First, second.Begin = endOf(first, part)
			sure, l := strip.Fits(first, second)
			if sure == api.No || l != api.Fine {
				t.Errorf("%+v does not fit when it is cut at %d: %d, bell %d", b, cut, sure, l)
			}
			if n, _ := strip.Histories(first); n == 1 && sure != api.Yes {
				t.Errorf("%+v, cut at %d, is sure, but fits: %d", b, cut, sure)
			}
			sures[sure]++
			second.First = second.First%b.Last + 1
			if sure, _ := strip.Fits(first, second); torn == 0 && sure != api.No {
				t.Errorf("%+v, cut at %d, fits another number: %d", b, cut, sure)
			}
		}
	}
	if sures[api.Yes] < 100 || sures[api.Open] < 100 {
		t.Errorf("there were too few cuts: %v", sures)
	}
}

// turned returns the book with its articles and counts in the opposite order.
func turned(b api.StripBook) api.StripBook {
	o := clone(b)
	slices.Reverse(o.Articles)
	slices.Reverse(o.Counts)
	for i, c := range o.Counts {
		if c.Kind == api.StripSold {
			o.Counts[i].A = len(b.Articles) - 1 - c.A
		}
	}
	return o
}

// P2.10: the order of articles and of counts changes no more than indexes.
func TestAnyOrder(t *testing.T) {
	d := dice.Dice(12)
	for i := range 400 {
		b, _ := anyBook(&d, i%2 == 0)
		o := turned(b)
		back := func(list []int) []int {
			var turned []int
			for _, a := range list {
				turned = append(turned, len(b.Articles)-1-a)
			}
			slices.Reverse(turned)
			return turned
		}
		report := func(b api.StripBook, articles func(list []int) []int) string {
			var out []any
			put := func(values ...any) { out = append(out, values...) }
			n, l := strip.Histories(b)
			put(n, l)
			list, l := strip.Totals(b)
			put(list, l)
			span, l := strip.Entries(b)
			put(span, l)
			for n := range 10 {
				list, l := strip.Articles(b, n)
				put(articles(list), l)
				list, l = strip.Clerks(b, n)
				put(list, l)
				list, l = strip.Numbers(b, n)
				put(list, l)
				list, l = strip.Torn(b, n)
				put(list, l)
				span, l := strip.Took(b, n)
				put(span, l)
				span, l = strip.Made(b, n)
				put(span, l)
			}
			_, found, l := strip.Whole(b)
			put(found, l)
			counts, l := strip.Clash(b)
			put(len(counts), l)
			kind, _, left, l := strip.Ask(b)
			put(kind, left, l)
			return show(out...)
		}
		if one, other := report(b, func(list []int) []int { return list }), report(o, back); one != other {
			t.Errorf("%+v: %s, in the other order %s", b, one, other)
		}
		if counts, l := strip.Clash(o); l == api.Fine && len(counts) > 0 {
			for i := range counts {
				counts[i] = len(b.Counts) - 1 - counts[i]
			}
			slices.Sort(counts)
			if n, _ := strip.Histories(alone(b, counts)); n > 0 {
				t.Errorf("%+v: %v clash in the other order only", b, counts)
			}
		}
	}
}

// P0.5: what a strip leaves open is found once more is counted or read.
func TestWhatIsMissing(t *testing.T) {
	b := book(t, textR)
	if _, found, _ := strip.Whole(b); found {
		t.Error("R is whole")
	}
	b, l := strip.Note(b, api.StripCount{Kind: api.StripTook, A: 1, Many: to(65, 65)})
	b, k := strip.Note(b, api.StripCount{Kind: api.StripMade, A: 0, Many: to(2, 2)})
	sold, found, m := strip.Whole(b)
	if !found || !slices.Equal(sold, sales(0, 0, 2, 0, 1, 1)) || l+k+m != api.Fine {
		t.Errorf("Whole: %v, %v, bells %d %d %d", sold, found, l, k, m)
	}
	b = book(t, textTwo)
	was, _ := strip.Clerks(b, 2)
	e := blurred(b)
	e.Clerk = 1
	b, l = strip.Read(b, 2, e)
	if now, _ := strip.Clerks(b, 2); !slices.Equal(was, []int{0, 1}) || !slices.Equal(now, []int{1}) || l != api.Fine {
		t.Errorf("Clerks: %v, then %v, bell %d", was, now, l)
	}
}
