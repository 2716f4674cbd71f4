package sales_test

import (
	"math"
	"strings"
	"testing"

	"nosale/api"
	"nosale/dice"
	"nosale/promises"
	"nosale/sales"
)

// newsCase is a book of which more is known, and its text then.
type newsCase struct {
	text, want string
	l          api.Bell
}

// is compares the book that a function returned with what is expected; old is the one that was handed in.
func (x newsCase) is(t *testing.T, old, b api.SalesBook, l api.Bell, asked ...any) {
	t.Helper()
	layer().News(t, promises.Case{Text: x.text, Want: x.want, Bell: x.l}, old, b, l, asked...)
}

// P6.3: Tell returns the book in which the amount of a slip is known better.
func TestTell(t *testing.T) {
	signed := with("30 open", "29..30 yes")
	for _, x := range []struct {
		newsCase
		slip int
		x    api.Span
	}{
		{newsCase{textS, with("20..22", "22"), api.Fine}, 0, to(22, 22)}, {newsCase{textS, with("20..22", "20..21"), api.Fine}, 0, to(0, 21)}, {newsCase{textS, with("20..22", "21..22"), api.Fine}, 0, to(21, 999)}, {newsCase{textS, textS, api.Fine}, 0, to(0, 999)}, {newsCase{textS, with("5..6", "6"), api.Fine}, 2, to(6, 6)}, {newsCase{textS, textS, api.Fine}, 1, to(10, 10)}, {newsCase{textS, textS, api.Fine}, 3, to(30, 40)},
		// what was written on a fix
		{newsCase{with("30 open", "29..31 open"), with("30 open", "29 open"), api.Fine}, 3, to(28, 29)},
		// nothing in common, or no history then
		{newsCase{textS, "", api.Odds}, 0, to(23, 30)}, {newsCase{textS, "", api.Odds}, 3, to(20, 22)}, {newsCase{with("15..16", "14"), "", api.Odds}, 0, to(21, 22)}, {newsCase{signed, "", api.Odds}, 0, to(22, 22)}, {newsCase{textOdd, "", api.Odds}, 0, to(0, 999)}, {newsCase{textFirm, "", api.Odds}, 0, to(5, 5)},
		{newsCase{textS, "", api.Missing}, 4, to(1, 2)}, {newsCase{textS, "", api.Missing}, -1, to(2, 1)}, {newsCase{textS, "", api.Missing}, math.MaxInt, to(1, 2)}, {newsCase{textBare, "", api.Missing}, 0, to(0, 999)},
		{newsCase{textS, "", api.Bound}, 0, to(2, 1)}, {newsCase{textS, "", api.Bound}, 0, to(0, 1000)}, {newsCase{textS, "", api.Bound}, 0, to(-1, 30)}, {newsCase{textS, "", api.Bound}, 0, to(math.MinInt, math.MaxInt)}, {newsCase{textS, "", api.Bound}, 1, to(1001, 1000)}, {newsCase{textOdd, "", api.Bound}, 0, to(2, 1)},
	} {
		old := parse(t, x.text)
		b, l := sales.Tell(old, x.slip, x.x)
		x.is(t, old, b, l, x.slip, x.x)
	}
}

// P6.3: Sign returns the book in which it is known whether a fix is signed.
func TestSign(t *testing.T) {
	two := with("sales 1", "sales 2")
	for _, x := range []struct {
		newsCase
		slip int
		sign bool
	}{
		{newsCase{textS, with("30 open", "30 no"), api.Fine}, 3, false}, {newsCase{textS, "", api.Odds}, 3, true}, {newsCase{two, strings.Replace(two, "30 open", "30 yes", 1), api.Fine}, 3, true}, {newsCase{two, strings.Replace(two, "30 open", "30 no", 1), api.Fine}, 3, false},
		{newsCase{with("30 open", "30 no"), "", api.Twice}, 3, false}, {newsCase{with("30 open", "30 no"), "", api.Twice}, 3, true}, {newsCase{with("30 open", "30 yes"), "", api.Twice}, 3, true}, {newsCase{textFixed, "", api.Twice}, 1, true},
		{newsCase{textS, "", api.Missing}, 2, true}, {newsCase{textS, "", api.Missing}, 0, false}, {newsCase{textS, "", api.Missing}, 4, true}, {newsCase{textS, "", api.Missing}, -1, true}, {newsCase{textBare, "", api.Missing}, 0, true},
		{newsCase{textOdd, "", api.Odds}, 2, false}, {newsCase{textFalse, "", api.Odds}, 1, true},
	} {
		old := parse(t, x.text)
		b, l := sales.Sign(old, x.slip, x.sign)
		x.is(t, old, b, l, x.slip, x.sign)
	}
}

// P6.3: Correct returns the book with one more fix, as the last slip.
func TestCorrect(t *testing.T) {
	corrected := func(text, line string) string { return strings.Replace(text, "sum cash", line+"\nsum cash", 1) }
	one := func(change func(s *api.SalesSlip)) api.SalesSlip {
		s := api.SalesSlip{Kind: api.SalesFix, Clerk: 1, For: 1, Amount: to(12, 12), Signed: api.Yes}
		change(&s)
		return s
	}
	two := corrected(textS, "slip fix 0 0 2 5 open")
	full := with("slip fix 0 0 0 30 open\n", strings.Repeat("slip paid 0 0 -1 0 open\n", 3))
	for _, x := range []struct {
		newsCase
		s api.SalesSlip
	}{
		{newsCase{textS, corrected(textS, "slip fix 0 1 1 12 yes"), api.Fine}, one(func(s *api.SalesSlip) {})}, {newsCase{textS, corrected(textS, "slip fix 0 1 1 12 no"), api.Fine}, one(func(s *api.SalesSlip) { s.Signed = api.No })}, {newsCase{textS, corrected(textS, "slip fix 0 1 1 12..14 open"), api.Fine}, one(func(s *api.SalesSlip) { s.Signed, s.Amount.High = api.Open, 14 })}, {newsCase{textS, corrected(textS, "slip fix 0 1 0 21 yes"), api.Fine}, one(func(s *api.SalesSlip) { s.For, s.Amount = 0, to(21, 21) })}, {newsCase{textBare + "slip paid 0 0 -1 5 open\n", textBare + "slip paid 0 0 -1 5 open\nslip fix 0 1 0 12 yes\n", api.Fine}, one(func(s *api.SalesSlip) { s.For = 0 })},
		// a fix makes right what was false
		{newsCase{textOdd, corrected(textOdd, "slip fix 0 1 0 6 yes"), api.Fine}, one(func(s *api.SalesSlip) { s.For, s.Amount = 0, to(6, 6) })},
		{newsCase{textS, "", api.Odds}, one(func(s *api.SalesSlip) { s.For, s.Amount = 0, to(4, 4) })}, {newsCase{textOdd, "", api.Odds}, one(func(s *api.SalesSlip) { s.For, s.Amount = 0, to(4, 4) })}, {newsCase{textFirm, "", api.Odds}, one(func(s *api.SalesSlip) { s.For = 0 })},
		// no fix, whatever else is wrong
		{newsCase{textS, "", api.Order}, one(func(s *api.SalesSlip) { s.Kind = api.SalesSold })}, {newsCase{textS, "", api.Order}, one(func(s *api.SalesSlip) { s.Kind, s.Dept = api.SalesBack, 9 })}, {newsCase{textS, "", api.Order}, one(func(s *api.SalesSlip) { s.Kind = 6 })}, {newsCase{textS, "", api.Order}, one(func(s *api.SalesSlip) { s.Kind = -1 })}, {newsCase{textS, "", api.Order}, slip(api.SalesSold, 0, 0, 1, 1)}, {newsCase{full, "", api.Order}, slip(api.SalesSold, 0, 0, 1, 1)},
		// its bell
		{newsCase{textS, "", api.Bound}, one(func(s *api.SalesSlip) { s.Dept = 1 })}, {newsCase{textS, "", api.Bound}, one(func(s *api.SalesSlip) { s.Clerk = 4 })}, {newsCase{textS, "", api.Missing}, one(func(s *api.SalesSlip) { s.For = 4 })}, {newsCase{textS, "", api.Missing}, one(func(s *api.SalesSlip) { s.For = -1 })}, {newsCase{textS, "", api.Order}, one(func(s *api.SalesSlip) { s.For = 3 })}, {newsCase{textS, "", api.Bound}, one(func(s *api.SalesSlip) { s.Amount.High = 15 })}, {newsCase{textS, "", api.Bound}, one(func(s *api.SalesSlip) { s.Amount = to(1000, 1000) })}, {newsCase{textS, "", api.Bound}, one(func(s *api.SalesSlip) { s.Signed = 3 })}, {newsCase{textOdd, "", api.Bound}, one(func(s *api.SalesSlip) { s.Clerk = -1 })},
		// too many
		{newsCase{two, "", api.Count}, one(func(s *api.SalesSlip) {})}, {newsCase{two, "", api.Missing}, one(func(s *api.SalesSlip) { s.For = 9 })}, {newsCase{full, "", api.Count}, one(func(s *api.SalesSlip) {})},
	} {
		old := parse(t, x.text)
		b, l := sales.Correct(old, x.s)
		x.is(t, old, b, l, x.s)
	}
}

// P6.3: Note returns the book with one more sum, as the last one.
func TestNote(t *testing.T) {
	firm := func(s api.SalesSum) api.SalesSum {
		s.Firm = true
		return s
	}
	full := textS + strings.Repeat("sum debt 0 10 loose\n", 3)
	for _, x := range []struct {
		newsCase
		s api.SalesSum
	}{
		{newsCase{textS, textS + "sum debt 0 10..11 loose\n", api.Fine}, sum(api.SalesDebt, 0, 10, 11)}, {newsCase{textS, textS + "sum dept 1 26..40 firm\n", api.Fine}, firm(sum(api.SalesDept, 1, 26, 40))}, {newsCase{textS, textS + "sum cash 0 15 loose\n", api.Fine}, sum(api.SalesCash, 0, 15, 15)}, {newsCase{textBare, textBare + "sum cash 0 -9999..9999 loose\n", api.Fine}, sum(api.SalesCash, 0, -9999, 9999)},
		// it can be false, if so many can be
		{newsCase{textS, "", api.Odds}, sum(api.SalesDebt, 0, 11, 11)}, {newsCase{with("sales 1", "sales 2"), with("sales 1", "sales 2") + "sum debt 0 11 loose\n", api.Fine}, sum(api.SalesDebt, 0, 11, 11)}, {newsCase{with("sales 1", "sales 2"), "", api.Odds}, firm(sum(api.SalesDebt, 0, 11, 11))}, {newsCase{textBare, "", api.Odds}, sum(api.SalesGifts, 0, 1, 1)}, {newsCase{textOdd, "", api.Odds}, sum(api.SalesGifts, 0, 0, 0)},
		{newsCase{textS, "", api.Bound}, sum(api.SalesDebt, 1, 0, 0)}, {newsCase{textS, "", api.Bound}, sum(api.SalesDept, 5, 0, 0)}, {newsCase{textS, "", api.Bound}, sum(5, 0, 0, 0)}, {newsCase{textS, "", api.Bound}, sum(-1, 0, 0, 0)}, {newsCase{textS, "", api.Bound}, sum(api.SalesCash, 0, 16, 15)}, {newsCase{textS, "", api.Bound}, sum(api.SalesCash, 0, 0, 10000)}, {newsCase{textOdd, "", api.Bound}, sum(api.SalesCash, 0, -10000, 0)},
		{newsCase{full, "", api.Count}, sum(api.SalesDebt, 0, 10, 10)}, {newsCase{full, "", api.Count}, sum(9, 9, 9, 8)},
	} {
		old := parse(t, x.text)
		b, l := sales.Note(old, x.s)
		x.is(t, old, b, l, x.s)
	}
}

// P6.3: Trust returns the book in which a sum is firm.
func TestTrust(t *testing.T) {
	for _, x := range []struct {
		newsCase
		sum int
	}{
		{newsCase{textS, with("16 loose", "16 firm"), api.Fine}, 0}, {newsCase{textS, "", api.Odds}, 1}, {newsCase{with("16 loose", "16 firm"), with("16 loose", "16 firm"), api.Fine}, 0}, {newsCase{textFirm, "", api.Odds}, 0}, {newsCase{textFirm, "", api.Odds}, 1}, {newsCase{textFalse, "", api.Odds}, 1},
		{newsCase{textS, "", api.Missing}, 2}, {newsCase{textS, "", api.Missing}, -1}, {newsCase{textS, "", api.Missing}, math.MinInt}, {newsCase{textBare, "", api.Missing}, 0}, {newsCase{textOdd, "", api.Missing}, 1},
	} {
		old := parse(t, x.text)
		b, l := sales.Trust(old, x.sum)
		x.is(t, old, b, l, x.sum)
	}
}

// P6.3: Clean returns the book without fixes.
func TestClean(t *testing.T) {
	const fix = "slip fix 0 0 0 30 open\n"
	for _, x := range []newsCase{
		{textS, "", api.Order}, {with("30 open", "30 no"), with(fix, ""), api.Fine}, {with("30 open", "28..30 yes"), strings.Replace(with(fix, ""), "20..22", "28..30", 1), api.Fine}, {with(fix, ""), with(fix, ""), api.Fine},
		{textFixed, "sales 2\nslip sold 0 0 -1 6..7 open\nslip credit 0 0 -1 8 open\nslip back 0 1 1 6 open\n", api.Fine}, {strings.Replace(textFixed, "6..7 yes", "6..7 no", 1), "sales 2\nslip sold 0 0 -1 5 open\nslip credit 0 0 -1 8 open\nslip back 0 1 1 6 open\n", api.Fine}, {strings.Replace(textFixed, "5 yes", "5 no", 1), "sales 2\nslip sold 0 0 -1 6..7 open\nslip credit 0 0 -1 8 open\nslip back 0 1 1 6 open\n", api.Fine}, {strings.Replace(textFixed, "5 yes", "5 open", 1), "", api.Order}, {strings.Replace(textFixed, "6..7 yes", "6..7 open", 1), "", api.Order},
		{textBare, textBare, api.Fine}, {textAll, "", api.Order}, {strings.NewReplacer("998 open", "998 no", "997 open", "997 yes").Replace(textAll), strings.NewReplacer("997..999", "995..997", "slip fix 0 3 0 996..998 open\n", "", "slip fix 0 3 0 995..997 open\n", "").Replace(textAll), api.Fine},
		// a fix of what was taken back
		{"sales 0\nslip sold 0 0 -1 9 open\nslip back 0 0 0 5 open\nslip fix 0 0 1 4 yes\nslip back 1 1 0 3 open\n", "sales 0\nslip sold 0 0 -1 9 open\nslip back 0 0 0 4 open\nslip back 1 1 0 3 open\n", api.Fine},
		// without a history
		{strings.Replace(textOdd, "7 open", "7 yes", 1), strings.Replace(strings.Replace(textOdd, "slip fix 0 0 1 7 open\n", "", 1), "0 6 open", "0 7 open", 1), api.Fine}, {textOdd, "", api.Order},
	} {
		old := parse(t, x.text)
		b, l := sales.Clean(old)
		x.is(t, old, b, l)
	}
}

// P6.3: the histories of the books that are returned are those of the oracle.
func TestNewsLikeOracle(t *testing.T) {
	d := dice.Dice(4)
	known := map[string]int{}
	for i := range 400 {
		b, real := anyBook(&d, i%2 == 0)
		is := func(name string, want, got api.SalesBook, l api.Bell) {
			t.Helper()
			bell := api.Fine
			if len(pasts(want)) == 0 {
				bell, want = api.Odds, api.SalesBook{}
			}
			if show(got) != show(want) || l != bell {
				t.Errorf("%+v: %s: %+v, bell %d, want %+v, %d", b, name, got, l, want, bell)
			}
			if l == api.Fine {
				known[name]++
			}
		}
		for i, s := range b.Slips {
			o, n := clone(b), s.Amount.Low+d.Roll(s.Amount.High-s.Amount.Low+1)
			o.Slips[i].Amount = to(n, n)
			got, l := sales.Tell(b, i, to(n, n))
			is("Tell", o, got, l)
			if s.Kind == api.SalesFix && s.Signed == api.Open {
				o, yes := clone(b), d.Roll(2) == 0
				o.Slips[i].Signed = sureOfBool(yes)
				got, l := sales.Sign(b, i, yes)
				is("Sign", o, got, l)
			}
		}
		if list := about(b, api.SalesFix); len(list) > 0 && len(b.Slips) < api.MaxSalesSlips {
			n, o := d.Roll(20), clone(b)
			o.Slips = append(o.Slips, fix(list[d.Roll(len(list))], n, n+d.Roll(3), api.Sure(d.Roll(3))))
			got, l := sales.Correct(b, o.Slips[len(o.Slips)-1])
			is("Correct", o, got, l)
		}
		if len(b.Sums) < api.MaxSalesSums {
			o := clone(b)
			o.Sums = append(o.Sums, anySum(&d, b, real, 3))
			got, l := sales.Note(b, o.Sums[len(o.Sums)-1])
			is("Note", o, got, l)
		}
		for i := range b.Sums {
			o := clone(b)
			o.Sums[i].Firm = true
			got, l := sales.Trust(b, i)
			is("Trust", o, got, l)
		}
	}
	for _, name := range []string{"Tell", "Sign", "Correct", "Note", "Trust"} {
		if known[name] < 30 {
			t.Errorf("%s made too few books: %d", name, known[name])
		}
	}
}
