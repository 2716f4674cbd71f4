package sales_test

import (
	"math"
	"slices"
	"testing"

	"nosale/api"
	"nosale/sales"
)

// bellCase is a change of the book S, and the bell that it has then.
type bellCase struct {
	name   string
	change func(b *api.SalesBook)
	want   api.Bell
}

// headCases are those of Most and of the number of slips.
func headCases() []bellCase {
	most := func(n int) func(b *api.SalesBook) { return func(b *api.SalesBook) { b.Most = n } }
	slips := func(n int) func(b *api.SalesBook) {
		return func(b *api.SalesBook) { b.Slips = slices.Repeat([]api.SalesSlip{slip(api.SalesSold, 0, 0, 1, 1)}, n) }
	}
	return []bellCase{
		{"the book S", func(b *api.SalesBook) {}, api.Fine},
		{"no false sums", most(0), api.Fine}, {"false sums at the limit", most(2), api.Fine}, {"false sums above the limit", most(3), api.Bound}, {"false sums below 0", most(-1), api.Bound}, {"very many false sums", most(math.MaxInt), api.Bound}, {"very few false sums", most(math.MinInt), api.Bound},
		{"no slips", slips(0), api.Fine}, {"one slip", slips(1), api.Fine}, {"slips at the limit", slips(6), api.Fine}, {"slips above the limit", slips(7), api.Count}, {"very many slips", slips(1000), api.Count},
		// the first one decides
		{"a wrong Most, and too many slips", func(b *api.SalesBook) { slips(7)(b); most(3)(b) }, api.Bound}, {"too many slips, all wrong", func(b *api.SalesBook) { b.Slips = make([]api.SalesSlip, 7) }, api.Count},
	}
}

// changed returns a change of a slip of the book S.
func changed(i int, change func(s *api.SalesSlip)) func(b *api.SalesBook) {
	return func(b *api.SalesBook) { change(&b.Slips[i]) }
}

// slipCases are those of kinds, departments and clerks of slips.
func slipCases() []bellCase {
	as := func(kind api.SalesKind, dept int) func(b *api.SalesBook) {
		return changed(1, func(s *api.SalesSlip) { s.Kind, s.Dept = kind, dept })
	}
	dept := func(i, n int) func(b *api.SalesBook) { return changed(i, func(s *api.SalesSlip) { s.Dept = n }) }
	clerk := func(i, n int) func(b *api.SalesBook) {
		return changed(i, func(s *api.SalesSlip) { s.Clerk = n })
	}
	return []bellCase{
		{"sold", as(api.SalesSold, 4), api.Fine}, {"given", as(api.SalesGiven, 4), api.Fine}, {"paid", as(api.SalesPaid, 0), api.Fine}, {"paid in a department", as(api.SalesPaid, 1), api.Bound}, {"paid in a department below 0", as(api.SalesPaid, -1), api.Bound}, {"no kind", as(6, 0), api.Bound}, {"a kind below 0", as(-1, 0), api.Bound}, {"a kind far away", as(math.MaxInt, 0), api.Bound}, {"a kind far below", as(math.MinInt, 0), api.Bound},
		{"department 0", dept(0, 0), api.Fine}, {"a department at the limit", dept(0, 4), api.Fine}, {"a department above the limit", dept(0, 5), api.Bound}, {"a department below 0", dept(0, -1), api.Bound}, {"a department far away", dept(1, math.MaxInt), api.Bound}, {"a back at the limit", dept(2, 4), api.Fine}, {"a back above the limit", dept(2, 5), api.Bound}, {"a fix in a department", dept(3, 1), api.Bound}, {"a fix in a department below 0", dept(3, -1), api.Bound},
		{"a clerk at the limit", clerk(0, 3), api.Fine}, {"a clerk above the limit", clerk(0, 4), api.Bound}, {"a clerk below 0", clerk(0, -1), api.Bound}, {"a clerk of a fix at the limit", clerk(3, 3), api.Fine}, {"a clerk of a fix above the limit", clerk(3, 4), api.Bound}, {"a clerk far away", clerk(2, math.MinInt), api.Bound},
	}
}

// aboutCases are those of the slips that slips are about.
func aboutCases() []bellCase {
	of := func(i, n int) func(b *api.SalesBook) { return changed(i, func(s *api.SalesSlip) { s.For = n }) }
	kind := func(i int, k api.SalesKind) func(b *api.SalesBook) {
		return changed(i, func(s *api.SalesSlip) { s.Kind = k })
	}
	all := func(changes ...func(b *api.SalesBook)) func(b *api.SalesBook) {
		return func(b *api.SalesBook) {
			for _, change := range changes {
				change(b)
			}
		}
	}
	more := func(s api.SalesSlip) func(b *api.SalesBook) {
		return func(b *api.SalesBook) { b.Slips = append(b.Slips, s) }
	}
	back := func(about int) api.SalesSlip {
		return api.SalesSlip{Kind: api.SalesBack, For: about}
	}
	return []bellCase{
		{"a sale about a slip", of(1, 0), api.Bound}, {"a sale about itself", of(0, 0), api.Bound}, {"a sale about less than none", of(0, -2), api.Bound}, {"a sale about a slip far away", of(0, math.MaxInt), api.Bound}, {"given for a slip", all(kind(1, api.SalesGiven), of(1, 0)), api.Bound}, {"paid for a slip", all(kind(1, api.SalesPaid), dept0(1), of(1, 0)), api.Bound},
		{"back of none", of(2, -1), api.Missing}, {"back of itself", of(2, 2), api.Missing}, {"back of a later slip", of(2, 3), api.Missing}, {"back of a slip that is not there", of(2, 4), api.Missing}, {"back of a slip far away", of(2, math.MaxInt), api.Missing}, {"back of a slip far below", of(2, math.MinInt), api.Missing},
		{"back of what is owed", of(2, 1), api.Fine}, {"back of what was given", kind(0, api.SalesGiven), api.Order}, {"back of what was paid", all(kind(0, api.SalesPaid), dept0(0)), api.Order}, {"back of what was taken back", more(back(2)), api.Order}, {"back of a fix", more(back(3)), api.Order}, {"a second back", more(back(0)), api.Fine},
		{"a fix of none", of(3, -1), api.Missing}, {"a fix of itself", of(3, 3), api.Missing}, {"a fix of a slip that is not there", of(3, 4), api.Missing}, {"a fix of a slip far away", of(3, math.MinInt), api.Missing}, {"a fix of what is owed", of(3, 1), api.Fine}, {"a fix of what was taken back", of(3, 2), api.Fine}, {"a fix of what was given", all(kind(1, api.SalesGiven), of(3, 1)), api.Fine}, {"a fix of what was paid", all(kind(1, api.SalesPaid), dept0(1), of(3, 1)), api.Fine}, {"a fix of a fix", more(fix(3, 1, 1, api.Open)), api.Order}, {"a second fix", more(fix(0, 1, 1, api.Yes)), api.Fine},
		{"the first slip is back", kind(0, api.SalesBack), api.Missing}, {"the first slip is a fix", all(kind(0, api.SalesFix), dept0(0)), api.Missing},
	}
}

// dept0 puts a slip of the book S into no department.
func dept0(i int) func(b *api.SalesBook) { return changed(i, func(s *api.SalesSlip) { s.Dept = 0 }) }

// amountCases are those of amounts, of signatures and of the number of fixes.
func amountCases() []bellCase {
	amount := func(i, low, high int) func(b *api.SalesBook) {
		return changed(i, func(s *api.SalesSlip) { s.Amount = to(low, high) })
	}
	signed := func(i int, is api.Sure) func(b *api.SalesBook) {
		return changed(i, func(s *api.SalesSlip) { s.Signed = is })
	}
	fixes := func(n int) func(b *api.SalesBook) {
		return func(b *api.SalesBook) { b.Slips = append(b.Slips[:3], slices.Repeat(b.Slips[3:], n)...) }
	}
	return []bellCase{
		{"an amount of 0", amount(0, 0, 0), api.Fine}, {"an amount at the limit", amount(0, 999, 999), api.Fine}, {"an amount above the limit", amount(0, 999, 1000), api.Bound}, {"an amount below 0", amount(0, -1, 0), api.Bound}, {"an amount that is no span", amount(0, 2, 1), api.Bound}, {"three numbers", amount(0, 997, 999), api.Fine}, {"four numbers", amount(0, 0, 3), api.Bound}, {"a very wide amount", amount(0, math.MinInt, math.MaxInt), api.Bound}, {"an amount that is no span at all", amount(0, math.MaxInt, math.MinInt), api.Bound}, {"all amounts", amount(0, 0, 999), api.Bound}, {"four numbers of a fix", amount(3, 0, 3), api.Bound}, {"four numbers that were taken back", amount(2, 0, 3), api.Bound}, {"more is taken back than there was", amount(2, 900, 900), api.Fine},
		{"a fix is signed", signed(3, api.Yes), api.Fine}, {"a fix is not signed", signed(3, api.No), api.Fine}, {"a fix is signed otherwise", signed(3, 3), api.Bound}, {"a fix is signed below 0", signed(3, -1), api.Bound}, {"a fix is signed far away", signed(3, math.MaxInt), api.Bound}, {"a sale is signed", signed(0, api.Yes), api.Bound}, {"a sale is not signed", signed(0, api.No), api.Bound}, {"a sale is signed otherwise", signed(0, 3), api.Bound}, {"a back is signed", signed(2, api.Yes), api.Bound}, {"a credit is not signed", signed(1, api.No), api.Bound},
		{"no fixes", fixes(0), api.Fine}, {"fixes at the limit", fixes(2), api.Fine}, {"fixes above the limit", fixes(3), api.Count},
		// the first one decides
		{"a wrong kind, about no slip", changed(2, func(s *api.SalesSlip) { s.Kind, s.For = 6, -1 }), api.Bound}, {"a wrong clerk, about no slip", changed(2, func(s *api.SalesSlip) { s.Clerk, s.For = 4, 9 }), api.Bound}, {"a wrong department, about a fix", func(b *api.SalesBook) { fixes(2)(b); b.Slips[4].For, b.Slips[4].Dept = 3, 1 }, api.Bound}, {"about no slip, and a wrong amount", changed(2, func(s *api.SalesSlip) { s.For, s.Amount = 2, to(2, 1) }), api.Missing}, {"about no sale, and signed", func(b *api.SalesBook) { b.Slips[0].Kind = api.SalesGiven; b.Slips[2].Signed = api.Yes }, api.Order},
		{"about no slip, before a wrong kind", func(b *api.SalesBook) { b.Slips[2].For = 2; b.Slips[3].Kind = 6 }, api.Missing}, {"a wrong kind, before about no slip", func(b *api.SalesBook) { b.Slips[1].Kind = 6; b.Slips[2].For = 2 }, api.Bound}, {"a wrong amount, before about no slip", func(b *api.SalesBook) { b.Slips[0].Amount = to(2, 1); b.Slips[2].For = 2 }, api.Bound},
		{"too many fixes, one of them of a fix", func(b *api.SalesBook) { fixes(3)(b); b.Slips[5].For = 4 }, api.Order}, {"too many fixes, and too many sums", func(b *api.SalesBook) { fixes(3)(b); b.Sums = make([]api.SalesSum, 6) }, api.Count}, {"too many fixes, and a wrong sum", func(b *api.SalesBook) { fixes(3)(b); b.Sums[0].A = 9 }, api.Count},
	}
}

// sumCases are those of sums.
func sumCases() []bellCase {
	sums := func(list ...api.SalesSum) func(b *api.SalesBook) { return func(b *api.SalesBook) { b.Sums = list } }
	cash := func(low, high int) func(b *api.SalesBook) { return sums(sum(api.SalesCash, 0, low, high)) }
	of := func(kind api.SalesSumKind, a int) func(b *api.SalesBook) { return sums(sum(kind, a, 0, 0)) }
	return []bellCase{
		{"no sums", sums(), api.Fine}, {"sums at the limit", sums(make([]api.SalesSum, 5)...), api.Fine}, {"sums above the limit", sums(make([]api.SalesSum, 6)...), api.Count}, {"very many sums", sums(make([]api.SalesSum, 1000)...), api.Count}, {"a sum twice", sums(sum(api.SalesCash, 0, 1, 1), sum(api.SalesCash, 0, 2, 2)), api.Fine},
		{"no kind of sums", of(5, 0), api.Bound}, {"a kind of sums below 0", of(-1, 0), api.Bound}, {"a kind of sums far away", of(math.MaxInt, 0), api.Bound}, {"a kind of sums far below", of(math.MinInt, 0), api.Bound},
		{"cash", of(api.SalesCash, 0), api.Fine}, {"cash of 1", of(api.SalesCash, 1), api.Bound}, {"cash of -1", of(api.SalesCash, -1), api.Bound}, {"debt", of(api.SalesDebt, 0), api.Fine}, {"debt of 1", of(api.SalesDebt, 1), api.Bound}, {"gifts", of(api.SalesGifts, 0), api.Fine}, {"gifts of 1", of(api.SalesGifts, 1), api.Bound}, {"gifts of -1", of(api.SalesGifts, -1), api.Bound},
		{"a department of sums at the limit", of(api.SalesDept, 4), api.Fine}, {"a department of sums above the limit", of(api.SalesDept, 5), api.Bound}, {"a department of sums below 0", of(api.SalesDept, -1), api.Bound}, {"a clerk of sums at the limit", of(api.SalesClerk, 3), api.Fine}, {"a clerk of sums above the limit", of(api.SalesClerk, 4), api.Bound}, {"a clerk of sums below 0", of(api.SalesClerk, -1), api.Bound}, {"a clerk of sums far away", of(api.SalesClerk, math.MaxInt), api.Bound},
		{"all numbers", cash(-9999, 9999), api.Fine}, {"numbers above the limit", cash(0, 10000), api.Bound}, {"numbers below the limit", cash(-10000, 0), api.Bound}, {"no span of numbers", cash(1, 0), api.Bound}, {"any numbers", cash(math.MinInt, math.MaxInt), api.Bound}, {"no numbers at all", cash(math.MaxInt, math.MinInt), api.Bound}, {"a sum that is false", cash(9999, 9999), api.Fine},
		// the first one decides
		{"too many sums, all wrong", sums(slices.Repeat([]api.SalesSum{sum(9, 9, 1, 0)}, 6)...), api.Count}, {"a wrong slip, and too many sums", func(b *api.SalesBook) { b.Slips[2].For = 9; b.Sums = make([]api.SalesSum, 6) }, api.Missing}, {"a wrong sum behind right ones", sums(sum(api.SalesCash, 0, 0, 0), sum(api.SalesDept, 4, 0, 0), sum(api.SalesDebt, 4, 0, 0)), api.Bound},
	}
}

// bellCases returns all cases.
func bellCases() []bellCase {
	return slices.Concat(headCases(), slipCases(), aboutCases(), amountCases(), sumCases())
}

// P6.1, P0.2: CheckBook returns the first bell, which all functions return then, with nothing else.
func TestBells(t *testing.T) {
	for _, x := range bellCases() {
		b := parse(t, textS)
		x.change(&b)
		if l := sales.CheckBook(b); l != x.want {
			t.Errorf("%s: bell %d, want %d", x.name, l, x.want)
		}
		if x.want != api.Fine {
			onlyBell(t, x.name, b, x.want)
		}
	}
}

// onlyBell tells whether all functions return the bell of a book, and nothing else, even if they are asked for what is not there.
func onlyBell(t *testing.T, name string, b api.SalesBook, want api.Bell) {
	t.Helper()
	many, l := sales.Histories(b)
	fewest, l2 := sales.Fewest(b)
	clean, l3 := sales.Clean(b)
	text, l4 := sales.Print(b)
	got := show(many, fewest, clean, text, l, l2, l3, l4)
	if got != show(0, []int{}, api.SalesBook{}, "", want, want, want, want) {
		t.Errorf("%s: %s, want the bell %d alone", name, got, want)
	}
	for _, written := range [][]int{nil, {20, 10, 5, 30}} {
		if got := playedWith(b, written, []bool{true}); got != playedAlone(want) {
			t.Errorf("%s: %s, want the bell %d alone", name, got, want)
		}
	}
	for _, n := range []int{0, 3, -1} {
		if got := withHistory(b, n, n, fix(n, 1, 1, api.Yes)); got != bellsAlone(want) {
			t.Errorf("%s, %d: %s, want the bell %d alone", name, n, got, want)
		}
	}
	if got := withHistory(b, 0, 3, slip(api.SalesSold, 0, 0, 1, 1)); got != bellsAlone(want) {
		t.Errorf("%s: %s, want the bell %d alone", name, got, want)
	}
}

// playedWith writes the results of Play and IsHistory.
func playedWith(b api.SalesBook, written []int, signed []bool) string {
	now, wrong, l := sales.Play(b, written, signed)
	is, l2 := sales.IsHistory(b, written, signed)
	return show(now, wrong, is, l, l2)
}

// playedAlone writes these results if there is a bell.
func playedAlone(l api.Bell) string { return show([]int{}, []int{}, false, l, l) }

// withHistory writes the results of the functions that need a history: of a slip or a sum, of a fix, and of one that is new.
func withHistory(b api.SalesBook, n, old int, next api.SalesSlip) string {
	amounts, l := sales.Amounts(b, n)
	signed, l2 := sales.Signed(b, old)
	s, l3 := sales.Sum(b, api.SalesCash, 0)
	is, l4 := sales.False(b, n)
	asked, left, l5 := sales.Ask(b)
	told, l6 := sales.Tell(b, n, to(0, 999))
	sign, l7 := sales.Sign(b, old, true)
	corrected, l8 := sales.Correct(b, next)
	noted, l9 := sales.Note(b, sum(api.SalesCash, 0, -9999, 9999))
	trusted, l10 := sales.Trust(b, n)
	return show(amounts, signed, s, is, asked, left, told, sign, corrected, noted, trusted, l, l2, l3, l4, l5, l6, l7, l8, l9, l10)
}

// bellsAlone writes the results of these functions if all of them have a bell.
func bellsAlone(l api.Bell) string {
	none := api.SalesBook{}
	return show([]int{}, api.Open, api.Span{}, api.Open, 0, 0, none, none, none, none, none, l, l, l, l, l, l, l, l, l, l)
}

// P0.2: what is asked about and is not there, and the other bells of arguments, come before it is Odds that there is no history, which comes with nothing else.
func TestBellsBeforeOdds(t *testing.T) {
	for text, old := range map[string]int{textOdd: 2, textFirm: 1, textFalse: 1} {
		b := parse(t, text)
		if got := withHistory(b, 0, old, fix(0, 0, 0, api.No)); got != bellsAlone(api.Odds) {
			t.Errorf("%q: %s", text, got)
		}
		for _, n := range []int{math.MinInt, -1, 3, math.MaxInt} {
			amounts, l := sales.Amounts(b, n)
			signed, l2 := sales.Signed(b, n)
			is, l3 := sales.False(b, n)
			told, l4 := sales.Tell(b, n, to(2, 1))
			sign, l5 := sales.Sign(b, n, false)
			trusted, l6 := sales.Trust(b, n)
			got := show(amounts, signed, is, told, sign, trusted, l, l2, l3, l4, l5, l6)
			none, m := api.SalesBook{}, api.Missing
			if got != show([]int{}, api.Open, api.Open, none, none, none, m, m, m, m, m, m) {
				t.Errorf("%q, %d: %s", text, n, got)
			}
		}
		s, l := sales.Sum(b, api.SalesCash, 1)
		told, l2 := sales.Tell(b, 0, to(0, 1000))
		corrected, l3 := sales.Correct(b, slip(api.SalesSold, 0, 0, 1, 1))
		noted, l4 := sales.Note(b, sum(5, 0, 0, 0))
		got := show(s, told, corrected, noted, l, l2, l3, l4)
		if got != show(api.Span{}, api.SalesBook{}, api.SalesBook{}, api.SalesBook{}, api.Bound, api.Bound, api.Order, api.Bound) {
			t.Errorf("%q: %s", text, got)
		}
		if n, l := sales.Histories(b); n != 0 || l != api.Fine {
			t.Errorf("%q: %d histories, bell %d", text, n, l)
		}
		if got, l := sales.Print(b); got != text || l != api.Fine {
			t.Errorf("Print: %q, bell %d", got, l)
		}
	}
}

// P6.1, P6.3, P0.2: a slip that is there, but is no fix, is Missing for Signed and Sign.
func TestNoFix(t *testing.T) {
	for _, text := range []string{textS, textOdd} {
		b := parse(t, text)
		for i, s := range b.Slips {
			if s.Kind == api.SalesFix {
				continue
			}
			sure, l := sales.Signed(b, i)
			o, l2 := sales.Sign(b, i, true)
			if got := show(sure, o, l, l2); got != show(api.Open, api.SalesBook{}, api.Missing, api.Missing) {
				t.Errorf("%q: the slip %d is no fix: %s", text, i, got)
			}
		}
	}
}
