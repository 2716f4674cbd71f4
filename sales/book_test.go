package sales_test

import (
	"fmt"
	"math"
	"slices"
	"strings"
	"testing"

	"nosale/api"
	"nosale/promises"
	"nosale/sales"
)

// The book S of the chapter's examples, and some more.
const (
	textS = "sales 1\nslip sold 1 0 -1 20..22 open\nslip credit 1 1 -1 10 open\nslip back 1 0 0 5..6 open\nslip fix 0 0 0 30 open\nsum cash 0 15..16 loose\nsum clerk 1 12 loose\n"
	// no slips
	textBare = "sales 0\n"
	// of two fixes for a slip both are signed
	textFixed = "sales 2\nslip sold 0 0 -1 9 open\nslip fix 0 0 0 5 yes\nslip credit 0 0 -1 8 open\nslip fix 0 1 0 6..7 yes\nslip back 0 1 2 6 open\n"
	// more is taken back than there was, whatever is false
	textOdd = "sales 2\nslip sold 1 0 -1 5 open\nslip back 1 0 0 6 open\nslip fix 0 0 1 7 open\nsum cash 0 -9..9 loose\n"
	// a firm sum is false
	textFirm = "sales 2\nslip sold 1 0 -1 5 open\nslip fix 0 0 0 6 open\nsum cash 0 5 loose\nsum gifts 0 1 firm\n"
	// more sums are false than can be
	textFalse = "sales 1\nslip given 2 0 -1 5..6 open\nslip fix 0 3 0 7 open\nsum gifts 0 1 loose\nsum dept 2 1 loose\n"
	// all kinds of slips and of sums
	textKinds = "sales 0\nslip sold 4 3 -1 100 open\nslip credit 3 2 -1 50..52 open\nslip given 4 0 -1 7 open\nslip back 3 3 1 20 open\nslip paid 0 1 -1 30 open\nslip fix 0 3 4 31..33 open\nsum cash 0 110..113 loose\nsum dept 4 107 firm\nsum clerk 3 80 loose\nsum debt 0 17..22 firm\nsum gifts 0 7 loose\n"
	// as many of all as there can be
	textAll = "sales 2\nslip sold 4 3 -1 997..999 open\nslip credit 4 3 -1 0..2 open\nslip back 4 3 0 900..902 open\nslip paid 0 3 -1 1..3 open\nslip fix 0 3 0 996..998 open\nslip fix 0 3 0 995..997 open\nsum cash 0 -9999..9999 loose\nsum dept 4 90..99 loose\nsum clerk 3 90..99 loose\nsum debt 0 -3..-1 loose\nsum cash 0 97..99 loose\n"
)

// texts returns the texts of all books above.
func texts() []string {
	return []string{textS, textBare, textFixed, textOdd, textFirm, textFalse, textKinds, textAll}
}

// parse reads a text that has no bell.
func parse(t *testing.T, text string) api.SalesBook {
	t.Helper()
	b, line, l := sales.Parse(text)
	if l != api.Fine || line != 0 {
		t.Fatalf("%q: bell %d in line %d", text, l, line)
	}
	return b
}

// with is the text of S with something else in the place of something.
func with(old, next string) string { return strings.Replace(textS, old, next, 1) }

// to returns the span from a to b.
func to(a, b int) api.Span { return api.Span{Low: a, High: b} }

// slip returns a slip that is about none.
func slip(kind api.SalesKind, dept, clerk, low, high int) api.SalesSlip {
	return api.SalesSlip{Kind: kind, Dept: dept, Clerk: clerk, For: -1, Amount: to(low, high)}
}

// fix returns a fix.
func fix(about, low, high int, signed api.Sure) api.SalesSlip {
	return api.SalesSlip{Kind: api.SalesFix, For: about, Amount: to(low, high), Signed: signed}
}

// sum returns a sum that is loose.
func sum(kind api.SalesSumKind, a, low, high int) api.SalesSum {
	return api.SalesSum{Kind: kind, A: a, Many: to(low, high)}
}

// clone returns a book that shares no memory with b.
func clone(b api.SalesBook) api.SalesBook {
	b.Slips, b.Sums = slices.Clone(b.Slips), slices.Clone(b.Sums)
	return b
}

// show writes values so that nil and empty slices look the same.
func show(values ...any) string { return fmt.Sprintf("%+v", values) }

// numbers returns numbers within and out of all bounds.
func numbers() []int {
	return []int{math.MinInt, -10000, -1, 0, 1, 2, 3, 4, 5, 6, 999, 1000, math.MaxInt}
}

// writings returns what can have been written on the slips of some books, and what cannot.
func writings() [][]int {
	return [][]int{nil, {0}, {999}, {1000}, {5, 6}, {-1, 0}, {20, 10, 5, 30}, {20, 10, 7, 30}, {5, 6, 7}, {9, 5, 8, 6, 6}, {9, 5, 8, 8, 6}, {1, 2, 3, 4, 5, 6}, {math.MaxInt, 1, 1, math.MinInt}, slices.Repeat([]int{1}, 1000)}
}

// signings returns whether the fixes of some books are signed.
func signings() [][]bool {
	return [][]bool{nil, {false}, {true}, {true, false}, {true, true}, {false, true, true}, make([]bool, 1000)}
}

// report calls each function with a book, and writes all results.
func report(b api.SalesBook) string {
	var out strings.Builder
	put := func(name string, values ...any) { fmt.Fprintln(&out, name, show(values...)) }
	put("CheckBook", sales.CheckBook(b))
	n, l := sales.Histories(b)
	put("Histories", n, l)
	list, l := sales.Fewest(b)
	put("Fewest", list, l)
	i, n, l := sales.Ask(b)
	put("Ask", i, n, l)
	o, l := sales.Clean(b)
	put("Clean", o, l)
	text, l := sales.Print(b)
	put("Print", text, l)
	for _, written := range writings() {
		for _, signed := range signings() {
			now, wrong, l := sales.Play(b, written, signed)
			put("Play", written, signed, now, wrong, l)
			is, l := sales.IsHistory(b, written, signed)
			put("IsHistory", written, signed, is, l)
		}
	}
	for _, n := range numbers() {
		reportNumber(b, n, put)
	}
	return out.String()
}

// reportNumber calls each function that takes a slip, a sum, or an A.
func reportNumber(b api.SalesBook, n int, put func(name string, values ...any)) {
	list, l := sales.Amounts(b, n)
	put("Amounts", n, list, l)
	sure, l := sales.Signed(b, n)
	put("Signed", n, sure, l)
	sure, l = sales.False(b, n)
	put("False", n, sure, l)
	o, l := sales.Trust(b, n)
	put("Trust", n, o, l)
	for _, is := range []bool{false, true} {
		o, l := sales.Sign(b, n, is)
		put("Sign", n, is, o, l)
	}
	for _, m := range []int{math.MinInt, -1, 0, 1, 3, 4, 5, math.MaxInt} {
		s, l := sales.Sum(b, api.SalesSumKind(m), n)
		put("Sum", m, n, s, l)
		o, l := sales.Tell(b, m, to(n, 999))
		put("Tell", m, n, o, l)
		o, l = sales.Correct(b, fix(m, 0, n, api.Sure(m)))
		put("Correct", m, n, o, l)
		o, l = sales.Note(b, sum(api.SalesSumKind(m), 0, n, 9999))
		put("Note", m, n, o, l)
	}
}

// layer is how this layer is held to what is promised of all of them.
func layer() promises.Layer[api.SalesBook] {
	return promises.Layer[api.SalesBook]{Print: sales.Print, Parse: sales.Parse, Show: show}
}
