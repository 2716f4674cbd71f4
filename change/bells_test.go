package change_test

import (
	"math"
	"slices"
	"testing"

	"nosale/api"
	"nosale/change"
)

// bellCase is a change of the book D, and the bell that it has then.
type bellCase struct {
	name   string
	change func(b *api.ChangeBook)
	want   api.Bell
}

// kindCases are those of kinds, and of the drawer.
func kindCases() []bellCase {
	kinds := func(list ...int) func(b *api.ChangeBook) {
		return func(b *api.ChangeBook) {
			*b = api.ChangeBook{Kinds: list, Drawer: make([]api.Span, len(list))}
		}
	}
	drawer := func(low, high int) func(b *api.ChangeBook) {
		return func(b *api.ChangeBook) { b.Drawer[1] = to(low, high) }
	}
	return []bellCase{
		{"the book D", func(b *api.ChangeBook) {}, api.Fine},
		{"no kinds", kinds(), api.Count}, {"one kind", kinds(5), api.Fine}, {"kinds at the limit", kinds(9, 7, 5, 3), api.Fine}, {"kinds above the limit", kinds(9, 7, 5, 3, 1), api.Count}, {"very many kinds", kinds(make([]int, 1000)...), api.Count},
		{"values at both limits", kinds(500, 1), api.Fine}, {"a value of 0", kinds(5, 0), api.Bound}, {"a value below 0", kinds(5, -1), api.Bound}, {"a value above the limit", kinds(501, 5), api.Bound}, {"a very great value", kinds(math.MaxInt), api.Bound}, {"a very small value", kinds(math.MinInt), api.Bound},
		{"values that are equal", kinds(5, 2, 2), api.Order}, {"values that grow", kinds(5, 2, 3), api.Order}, {"values that grow at once", kinds(1, 2), api.Order}, {"neighbours", kinds(4, 3, 2, 1), api.Fine},
		{"no drawer", func(b *api.ChangeBook) { b.Drawer = nil }, api.Count}, {"a drawer too short", func(b *api.ChangeBook) { b.Drawer = b.Drawer[:2] }, api.Count}, {"a drawer too long", func(b *api.ChangeBook) { b.Drawer = append(b.Drawer, to(0, 0)) }, api.Count},
		{"an empty drawer", drawer(0, 0), api.Fine}, {"a drawer at the limit", drawer(8, 9), api.Fine}, {"a drawer above the limit", drawer(9, 10), api.Bound}, {"a drawer below 0", drawer(-1, 0), api.Bound}, {"a drawer that is no span", drawer(2, 1), api.Bound}, {"two numbers", drawer(1, 2), api.Fine}, {"three numbers", drawer(1, 3), api.Bound}, {"a very wide drawer", drawer(math.MinInt, math.MaxInt), api.Bound}, {"a drawer that is no span at all", drawer(math.MaxInt, math.MinInt), api.Bound},
		// the first one decides
		{"a value that grows above the limit", kinds(5, 501), api.Bound}, {"a value of 0 behind one that grows", kinds(1, 2, 0), api.Order}, {"a value of 0 before one that grows", kinds(0, 1), api.Bound}, {"too many kinds, all wrong", kinds(0, 0, 0, 0, 0), api.Count},
		{"a wrong value, and no drawer", func(b *api.ChangeBook) { b.Kinds[2], b.Drawer = 0, nil }, api.Bound},
	}
}

// saleCases are those of sales.
func saleCases() []bellCase {
	sale := func(price int, seen api.Sure, paid ...int) func(b *api.ChangeBook) {
		return func(b *api.ChangeBook) {
			b.Sales[1] = api.ChangeSale{Price: price, Paid: paid, Seen: seen}
		}
	}
	return []bellCase{
		{"no sales", func(b *api.ChangeBook) { b.Sales = nil }, api.Fine}, {"sales at the limit", func(b *api.ChangeBook) { b.Sales = append(b.Sales, b.Sales[0]) }, api.Fine}, {"sales above the limit", func(b *api.ChangeBook) { b.Sales = append(b.Sales, b.Sales[:2]...) }, api.Count}, {"very many sales", func(b *api.ChangeBook) { b.Sales = make([]api.ChangeSale, 1000) }, api.Count},
		{"nothing paid", sale(0, api.Open, 0, 0, 0), api.Fine}, {"all paid", sale(21, api.Open, 3, 3, 3), api.Fine}, {"no numbers paid", sale(0, api.Open), api.Count}, {"too few numbers paid", sale(1, api.Open, 1, 0), api.Count}, {"too many numbers paid", sale(1, api.Open, 1, 0, 0, 0), api.Count},
		{"too many coins", sale(1, api.Open, 0, 4, 0), api.Bound}, {"too few coins", sale(1, api.Open, 1, 0, -1), api.Bound}, {"very many coins", sale(1, api.Open, math.MaxInt, 0, 0), api.Bound}, {"very few coins", sale(1, api.Open, math.MinInt, 0, 0), api.Bound},
		{"price of 0", sale(0, api.Open, 1, 0, 0), api.Fine}, {"price below 0", sale(-1, api.Open, 1, 0, 0), api.Bound}, {"price just paid", sale(4, api.Open, 1, 0, 0), api.Fine}, {"price not paid", sale(5, api.Open, 1, 0, 0), api.Short}, {"price not paid by all", sale(22, api.Open, 3, 3, 3), api.Short}, {"price above the limit", sale(1000, api.Open, 3, 3, 3), api.Bound}, {"very great price", sale(math.MaxInt, api.Open, 1, 0, 0), api.Bound},
		{"price at the limit", func(b *api.ChangeBook) { b.Kinds[0] = 500; sale(999, api.Open, 2, 0, 0)(b) }, api.Fine}, {"price above the limit, paid", func(b *api.ChangeBook) { b.Kinds[0] = 500; sale(1000, api.Open, 2, 0, 0)(b) }, api.Bound},
		{"seen to go", sale(1, api.Yes, 1, 0, 0), api.Fine}, {"seen to be refused", sale(1, api.No, 1, 0, 0), api.Fine}, {"seen wrong", sale(1, 3, 1, 0, 0), api.Bound}, {"seen below 0", sale(1, -1, 1, 0, 0), api.Bound}, {"seen far away", sale(1, math.MaxInt, 1, 0, 0), api.Bound},
		// the first one decides
		{"too few numbers, one of them wrong", sale(1, api.Open, 4, 0), api.Count}, {"too few numbers, and a wrong price", sale(-1, api.Open, 4, 0), api.Count}, {"not paid, and seen wrong", sale(5, 3, 1, 0, 0), api.Short}, {"a wrong price, and seen wrong", sale(-1, 3, 1, 0, 0), api.Bound},
		{"not paid, before too few numbers", func(b *api.ChangeBook) { b.Sales[2].Paid = nil; sale(5, api.Open, 1, 0, 0)(b) }, api.Short}, {"too few numbers, behind seen wrong", func(b *api.ChangeBook) { b.Sales[2].Paid = nil; sale(1, 3, 1, 0, 0)(b) }, api.Bound}, {"too few numbers, before not paid", func(b *api.ChangeBook) { b.Sales[0].Paid = nil; sale(5, api.Open, 1, 0, 0)(b) }, api.Count},
		{"a wrong drawer, and too many sales", func(b *api.ChangeBook) { b.Sales = make([]api.ChangeSale, 5); b.Drawer[2].High = 10 }, api.Bound},
	}
}

// knownCases are those of firsts and counts.
func knownCases() []bellCase {
	firsts := func(list ...api.ChangeFirst) func(b *api.ChangeBook) {
		return func(b *api.ChangeBook) { b.Firsts = list }
	}
	counts := func(list ...api.ChangeCount) func(b *api.ChangeBook) {
		return func(b *api.ChangeBook) { b.Counts = list }
	}
	both := func(one, other func(b *api.ChangeBook)) func(b *api.ChangeBook) {
		return func(b *api.ChangeBook) { one(b); other(b) }
	}
	return []bellCase{
		{"firsts at the limit", firsts(first(0, 1), first(1, 2), first(0, 2), first(0, 1)), api.Fine}, {"firsts above the limit", firsts(make([]api.ChangeFirst, 5)...), api.Count}, {"very many firsts", firsts(make([]api.ChangeFirst, 1000)...), api.Count}, {"a sale before itself", firsts(first(1, 1)), api.Fine}, {"firsts that contradict each other", firsts(first(0, 1), first(1, 0)), api.Fine},
		{"before nothing", firsts(first(0, 3)), api.Missing}, {"behind nothing", firsts(first(3, 0)), api.Missing}, {"before a sale below 0", firsts(first(0, -1)), api.Missing}, {"behind a sale below 0", firsts(first(-1, 0)), api.Missing}, {"far away", firsts(first(math.MinInt, math.MaxInt)), api.Missing}, {"a first without sales", func(b *api.ChangeBook) { b.Sales = nil; b.Firsts = make([]api.ChangeFirst, 1) }, api.Missing},
		{"counts at the limit", counts(make([]api.ChangeCount, 4)...), api.Fine}, {"counts above the limit", counts(make([]api.ChangeCount, 5)...), api.Count}, {"very many counts", counts(make([]api.ChangeCount, 1000)...), api.Count},
		{"a count of each kind", counts(count(0, 0, 30), count(1, 30, 30), count(2, 0, 0)), api.Fine}, {"a count of no kind", counts(count(3, 0, 0)), api.Missing}, {"a count of a kind below 0", counts(count(-1, 0, 0)), api.Missing}, {"a count of a kind far away", counts(count(math.MaxInt, 0, 0)), api.Missing},
		{"a count above the limit", counts(count(0, 0, 31)), api.Bound}, {"a count below 0", counts(count(0, -1, 0)), api.Bound}, {"a count that is no span", counts(count(0, 2, 1)), api.Bound}, {"a very wide count", counts(count(0, math.MinInt, math.MaxInt)), api.Bound},
		// the first one decides
		{"a count of no kind, that is no span", counts(count(3, 2, 1)), api.Missing}, {"a count that is no span, then one of no kind", counts(count(0, 2, 1), count(3, 0, 0)), api.Bound}, {"too many firsts, all wrong", firsts(slices.Repeat([]api.ChangeFirst{first(9, 9)}, 5)...), api.Count}, {"too many counts, all wrong", counts(slices.Repeat([]api.ChangeCount{count(9, 9, 8)}, 5)...), api.Count},
		{"a wrong first, and too many counts", both(firsts(first(0, 3)), counts(make([]api.ChangeCount, 5)...)), api.Missing}, {"seen wrong, and too many firsts", both(firsts(make([]api.ChangeFirst, 5)...), func(b *api.ChangeBook) { b.Sales[2].Seen = 3 }), api.Bound},
	}
}

// bellCases returns all cases.
func bellCases() []bellCase { return slices.Concat(kindCases(), saleCases(), knownCases()) }

// P4.1, P0.2: CheckBook returns the first bell, which all functions return then, with nothing else.
func TestBells(t *testing.T) {
	for _, x := range bellCases() {
		b := parse(t, textD)
		x.change(&b)
		if l := change.CheckBook(b); l != x.want {
			t.Errorf("%s: bell %d, want %d", x.name, l, x.want)
		}
		if x.want != api.Fine {
			onlyBell(t, x.name, b, x.want)
		}
	}
}

// onlyBell tells whether all functions return the bell of a book, and nothing else, even if they are asked for what is not there.
func onlyBell(t *testing.T, name string, b api.ChangeBook, want api.Bell) {
	t.Helper()
	for _, n := range []int{0, -1} {
		amount, l := change.Amount(b, []int{n})
		coins, found, l2 := change.Give(b, nil, n)
		cannot, l3 := change.Cannot(b, nil, n)
		in, out, swapped, l4 := change.Swap(b, nil, n)
		refused, after, l5 := change.Play(b, nil, nil)
		is, l6 := change.IsHistory(b, nil, nil)
		many, l7 := change.Histories(b)
		had, l8 := change.Had(b, n)
		left, l9 := change.Left(b, n)
		text, l10 := change.Print(b)
		for i, l := range []api.Bell{l, l2, l3, l4, l5, l6, l7, l8, l9, l10} {
			if l != want {
				t.Errorf("%s: function %d has the bell %d, want %d", name, i, l, want)
			}
		}
		none := []int{}
		got := show(amount, coins, found, cannot, in, out, swapped, refused, after, is, many, had, left, text)
		if got != show(0, none, false, none, none, none, false, none, none, false, 0, none, none, "") {
			t.Errorf("%s: %s together with a bell", name, got)
		}
		clash, l := change.Clash(b)
		if l != want || len(clash) > 0 {
			t.Errorf("%s: Clash: %v, bell %d", name, clash, l)
		}
		if got := withHistory(b, n, n); got != bellsAlone(want) {
			t.Errorf("%s: %s, want the bell %d alone", name, got, want)
		}
	}
}

// withHistory writes the results of the functions that need a history.
func withHistory(b api.ChangeBook, kind, sale int) string {
	had, l := change.Had(b, kind)
	left, l2 := change.Left(b, kind)
	goes, l3 := change.Goes(b, sale)
	runs, l4 := change.Runs(b)
	order, refused, l5 := change.Best(b)
	more, found, l6 := change.Float(b)
	asked, many, l7 := change.Ask(b)
	seen, l8 := change.See(b, sale, true)
	known, l9 := change.Know(b, first(sale, sale))
	noted, l10 := change.Note(b, count(kind, 0, 30))
	return show(had, left, goes, runs, order, refused, more, found, asked, many, seen, known, noted, l, l2, l3, l4, l5, l6, l7, l8, l9, l10)
}

// bellsAlone writes the results of these functions if all of them have a bell.
func bellsAlone(l api.Bell) string {
	none := []int{}
	return show(none, none, api.Open, api.Open, none, 0, none, false, 0, 0, api.ChangeBook{}, api.ChangeBook{}, api.ChangeBook{}, l, l, l, l, l, l, l, l, l, l)
}

// P0.2: what is asked about and is not there is Missing before it is Odds that there is no history, which comes with nothing else.
func TestBellsBeforeOdds(t *testing.T) {
	for _, text := range []string{textNever, textRound, textClash} {
		b := parse(t, text)
		for _, n := range []int{math.MinInt, -1, 3, math.MaxInt} {
			had, l := change.Had(b, n)
			left, l2 := change.Left(b, n)
			goes, l3 := change.Goes(b, n)
			seen, l4 := change.See(b, n, true)
			known, l5 := change.Know(b, first(0, n))
			noted, l6 := change.Note(b, count(n, 1, 0))
			got := show(had, left, goes, seen, known, noted, l, l2, l3, l4, l5, l6)
			none := api.ChangeBook{}
			if want := show([]int{}, []int{}, api.Open, none, none, none, api.Missing, api.Missing, api.Missing, api.Missing, api.Missing, api.Missing); got != want {
				t.Errorf("%q, %d: %s", text, n, got)
			}
		}
		if got := withHistory(b, 0, 0); got != bellsAlone(api.Odds) {
			t.Errorf("%q: %s", text, got)
		}
		if n, l := change.Histories(b); n != 0 || l != api.Fine {
			t.Errorf("%q: %d histories, bell %d", text, n, l)
		}
		if got, l := change.Print(b); got != text || l != api.Fine {
			t.Errorf("Print: %q, bell %d", got, l)
		}
	}
}
