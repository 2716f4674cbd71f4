package evening_test

import (
	"fmt"
	"math"
	"slices"
	"strings"
	"testing"

	"nosale/api"
	"nosale/evening"
	"nosale/promises"
)

// The book E of the chapter's examples, and some more.
const (
	textE = "evening 1 5 1 100\nclerk ann\nclerk bob\nhour 50 0\nhour 30..31 0+1\nwheel 1 2\ncount 0 150\ncount 1 177\n"
	// nobody was there, and nothing was counted
	textBare = "evening 0 0 0 5\nhour 3 none\n"
	// two clerks took something, each in an hour of its own
	textTwo = "evening 2 2 0 10\nclerk ann\nclerk bob\nhour 5 0\nhour 5 1\ncount 1 17\n"
	// a slip must have happened
	textSlip = "evening 0 0 1 100\nhour 50 none\nwheel 0 5\nwheel 0 -5\ncount 0 145\n"
	// two counts contradict each other
	textOdd = "evening 0 0 0 100\nhour 50..60 none\nhour 30 none\nhour 0 none\ncount 0 160\ncount 1 180\ncount 2 180\n"
	// one count cannot be right
	textHigh = "evening 1 5 1 100\nclerk ann\nclerk bob\nhour 50 0\nhour 30..31 0+1\nwheel 1 2\ncount 0 150\ncount 1 190\n"
	// who did it is known, but not how much of it slipped
	textSure = "evening 2 5 2 20..21\nclerk ann\nclerk bob\nclerk cid\nhour 10 0+1\nhour 10..12 2\nhour 0 0+2\nwheel 0 1\nwheel 1 -2\nwheel 2 3\ncount 0 30..31\ncount 1 37\ncount 2 37\n"
	// as many of all as there can be
	textAll = "evening 2 5 2 0..9999\nclerk a\nclerk b1\nclerk cccccccccc\nhour 0..9999 0+1+2\nhour 0..9999 0\nhour 0 none\nhour 7..8 1+2\nwheel 3 999\nwheel 0 -999\nwheel 0 1\ncount 0 9999\ncount 1 0..9999\ncount 2 4000..9999\ncount 3 9990..9999\n"
)

// texts returns the texts of all books above.
func texts() []string {
	return []string{textE, textBare, textTwo, textSlip, textOdd, textHigh, textSure, textAll}
}

// layer is how this layer is held to what is promised of all of them.
func layer() promises.Layer[api.EveningBook] {
	return promises.Layer[api.EveningBook]{Print: evening.Print, Parse: evening.Parse, Show: show}
}

// parse reads a text that has no bell.
func parse(t *testing.T, text string) api.EveningBook {
	t.Helper()
	b, line, l := evening.Parse(text)
	if l != api.Fine || line != 0 {
		t.Fatalf("%q: bell %d in line %d", text, l, line)
	}
	return b
}

// with is the text of E with something else in the place of something.
func with(old, next string) string { return strings.Replace(textE, old, next, 1) }

// to returns the span from a to b.
func to(a, b int) api.Span { return api.Span{Low: a, High: b} }

// taking returns a taking.
func taking(hour, clerk, amount int) api.EveningTaking {
	return api.EveningTaking{Hour: hour, Clerk: clerk, Amount: amount}
}

// takings returns a list of takings.
func takings(list ...api.EveningTaking) []api.EveningTaking { return list }

// count returns a count.
func count(after, low, high int) api.EveningCount {
	return api.EveningCount{After: after, Money: to(low, high)}
}

// clone returns a book that shares no memory with b.
func clone(b api.EveningBook) api.EveningBook {
	b.Clerks, b.Hours = slices.Clone(b.Clerks), slices.Clone(b.Hours)
	for i, h := range b.Hours {
		b.Hours[i].Staff = slices.Clone(h.Staff)
	}
	b.Wheels, b.Counts = slices.Clone(b.Wheels), slices.Clone(b.Counts)
	return b
}

// show writes values so that nil and empty slices look the same.
func show(values ...any) string { return fmt.Sprintf("%+v", values) }

// pastCase is takings and slips, whether there are such or not.
type pastCase struct {
	takings []api.EveningTaking
	slips   []int
}

// pastCases returns what can have happened in some books, and what cannot.
func pastCases() []pastCase {
	return []pastCase{
		{}, {nil, []int{0}}, {takings(taking(1, 0, 1)), []int{0}}, {takings(taking(1, 1, 3)), nil}, {takings(taking(0, 0, 2), taking(1, 1, 1)), nil}, {takings(taking(0, 0, 1)), []int{0, 2}},
		{takings(taking(0, 0, math.MaxInt)), nil}, {takings(taking(0, 0, math.MinInt)), nil}, {takings(taking(math.MinInt, 0, 1)), nil}, {takings(taking(0, math.MaxInt, 1)), nil}, {takings(taking(0, 0, 1), taking(0, 0, 1)), nil}, {nil, []int{-1}}, {nil, []int{1, 0}}, {make([]api.EveningTaking, 100), make([]int, 100)},
	}
}

// report calls each function with a book, and writes all results.
func report(b api.EveningBook) string {
	var out strings.Builder
	put := func(name string, values ...any) { fmt.Fprintln(&out, name, show(values...)) }
	put("CheckBook", evening.CheckBook(b))
	n, l := evening.Histories(b)
	put("Histories", n, l)
	is, l := evening.Explained(b)
	put("Explained", is, l)
	s, l := evening.Loss(b)
	put("Loss", s, l)
	fewest, l := evening.Fewest(b)
	put("Fewest", fewest, l)
	hands, l := evening.Hands(b)
	put("Hands", hands, l)
	clash, l := evening.Clash(b)
	put("Clash", clash, l)
	hour, clerk, left, l := evening.Ask(b)
	put("Ask", hour, clerk, left, l)
	text, l := evening.Print(b)
	put("Print", text, l)
	for _, x := range pastCases() {
		is, l := evening.Agrees(b, x.takings, x.slips)
		put("Agrees", is, l)
	}
	for _, n := range []int{math.MinInt, -1, 0, 1, 2, 3, 4, 9999, math.MaxInt} {
		reportNumber(b, n, put)
	}
	return out.String()
}

// reportNumber calls each function that takes a count, a clerk, an hour or a slip.
func reportNumber(b api.EveningBook, n int, put func(name string, values ...any)) {
	s, l := evening.Gap(b, n)
	put("Gap", n, s, l)
	s, l = evening.Sums(b, n)
	put("Sums", n, s, l)
	sure, l := evening.Took(b, n)
	put("Took", n, sure, l)
	sure, l = evening.Hour(b, n)
	put("Hour", n, sure, l)
	sure, l = evening.Slipped(b, n)
	put("Slipped", n, sure, l)
	o, l := evening.Mend(b, n)
	put("Mend", n, o, l)
	for _, m := range []int{math.MinInt, -1, 0, 1, 2, 3, 150, 10000, math.MaxInt} {
		o, l := evening.Clear(b, n, m)
		put("Clear", n, m, o, l)
		o, l = evening.Count(b, count(n, m, 9999))
		put("Count", n, m, o, l)
	}
}
