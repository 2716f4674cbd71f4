package tour_test

import (
	"fmt"
	"math"
	"slices"
	"strings"
	"testing"

	"nosale/api"
	"nosale/promises"
	"nosale/tour"
)

// The book T of the chapter's examples, and some more.
const (
	placesT = "place works\nplace ayr\nplace bute\nway 0 1 2..3\nway 1 2 4\nway 0 2 5\n"
	jobsT   = "job 1 1 5 2\njob 2 1..2 12 1\njob 0 1 20 1\n"
	textT   = "tour 3 1\n" + placesT + jobsT
	// nobody can travel
	textBare = "tour 0 0\nplace works\n"
	// the way 2 is longer than the two others together
	textOver = "tour 3 1\nplace works\nplace ayr\nplace bute\nway 0 1 2..3\nway 1 2 4\nway 0 2 8\n" + jobsT
	// a note contradicts the ways
	textOdd = textT + "note 0+1 9\nnote 1 4\n"
	// two notes contradict each other, and none of them by itself
	textTwo = "tour 0 0\nplace works\nplace ayr\nway 0 1 2..3\nnote 0 2\nnote 0+0 6\n"
	// each place is reached by way of the one before it
	textLine = "tour 9 2\nplace works\nplace a\nplace b1\nplace cccccccccc\nway 2 3 1..2\nway 0 1 0..1\nway 1 2 30\njob 3 0 200 5+4\njob 2 29..30 0 0+0\nnote none 0..200\nnote 0+1+0 2..4\n"
	// it depends on the time of the way 0 which way to oban is shorter; of several orders some are as good
	textTie = "tour 9 0\nplace works\nplace ayr\nplace oban\nway 0 1 2..3\nway 1 2 2\nway 0 2 4..5\njob 2 0..1 9 none\njob 2 0..1 9 none\njob 1 1 4 none\n"
	// as many of all as there can be
	textAll = "tour 9 3\nplace works\nplace a1\nplace b\nplace zzzzzzzzzz\nway 0 3 29..30\nway 0 1 29..30\nway 1 2 29..30\nway 2 3 29..30\nway 1 3 29..30\njob 2 29..30 200 0+1+2\njob 3 29..30 150 5+0+0\njob 0 0..1 200 0+0+1\njob 1 30 59 5+5+5\nnote 0+1+2+3+4 147..150\nnote 1+1+1+1+1 0..200\nnote none 0\nnote 4+0 58..59\n"
)

// texts returns the texts of all books above.
func texts() []string {
	return []string{textT, textBare, textOver, textOdd, textTwo, textLine, textTie, textAll}
}

// layer is how this layer is held to what is promised of all of them.
func layer() promises.Layer[api.TourBook] {
	return promises.Layer[api.TourBook]{Print: tour.Print, Parse: tour.Parse, Show: show}
}

// parse reads a text that has no bell.
func parse(t *testing.T, text string) api.TourBook {
	t.Helper()
	b, line, l := tour.Parse(text)
	if l != api.Fine || line != 0 {
		t.Fatalf("%q: bell %d in line %d", text, l, line)
	}
	return b
}

// with is the text of T with something else in the place of something.
func with(old, next string) string { return strings.Replace(textT, old, next, 1) }

// to returns the span from a to b.
func to(a, b int) api.Span { return api.Span{Low: a, High: b} }

// note returns a note.
func note(low, high int, ways ...int) api.TourNote {
	return api.TourNote{Ways: ways, Took: to(low, high)}
}

// job returns a job.
func job(place, low, high, due int, parts ...int) api.TourJob {
	return api.TourJob{Place: place, Work: to(low, high), Due: due, Parts: parts}
}

// clone returns a book that shares no memory with b.
func clone(b api.TourBook) api.TourBook {
	b.Places, b.Ways, b.Jobs, b.Notes = slices.Clone(b.Places), slices.Clone(b.Ways), slices.Clone(b.Jobs), slices.Clone(b.Notes)
	for i, j := range b.Jobs {
		b.Jobs[i].Parts = slices.Clone(j.Parts)
	}
	for i, n := range b.Notes {
		b.Notes[i].Ways = slices.Clone(n.Ways)
	}
	return b
}

// show writes values so that nil and empty slices look the same.
func show(values ...any) string { return fmt.Sprintf("%+v", values) }

// numbers returns numbers within and out of all bounds.
func numbers() []int {
	return []int{math.MinInt, -1, 0, 1, 2, 3, 4, 30, 31, 200, 201, math.MaxInt}
}

// roundCases returns rounds of some books, and lists that are none.
func roundCases() [][]int {
	return [][]int{nil, {0}, {1}, {2}, {3}, {0, 1}, {1, 0}, {2, 0, 1}, {3, 2, 1, 0}, {0, 1, 2, 3}, {0, 0}, {1, 2, 1}, {0, 4}, {4, 0}, {-1}, {0, math.MaxInt, 0}, {math.MinInt}, make([]int, 1000)}
}

// report calls each function with a book, and writes all results.
func report(b api.TourBook) string {
	var out strings.Builder
	put := func(name string, values ...any) { fmt.Fprintln(&out, name, show(values...)) }
	put("CheckBook", tour.CheckBook(b))
	n, l := tour.Histories(b)
	put("Histories", n, l)
	round, home, l := tour.Best(b)
	put("Best", round, home, l)
	list, l := tour.Never(b)
	put("Never", list, l)
	list, l = tour.Clash(b)
	put("Clash", list, l)
	way, left, l := tour.Ask(b)
	put("Ask", way, left, l)
	text, l := tour.Print(b)
	put("Print", text, l)
	for _, round := range roundCases() {
		reportRound(b, round, put)
	}
	for _, n := range numbers() {
		reportNumber(b, n, put)
	}
	return out.String()
}

// reportRound calls each function that takes a round.
func reportRound(b api.TourBook, round []int, put func(name string, values ...any)) {
	load, l := tour.Load(b, round)
	fits, l2 := tour.Fits(b, round)
	ends, l3 := tour.Ends(b, round)
	home, l4 := tour.Home(b, round)
	safe, l5 := tour.Safe(b, round)
	put("Load, Fits, Ends, Home, Safe", load, fits, ends, home, safe, l, l2, l3, l4, l5)
	swiftest, home, l := tour.Swiftest(b, round)
	put("Swiftest", swiftest, home, l)
	for _, at := range []int{math.MinInt, -1, 0, 1, 3, 4, math.MaxInt} {
		sure, l := tour.Late(b, round, at)
		put("Late", at, sure, l)
	}
	o, l := tour.Note(b, note(0, 9, round...))
	put("Note", o, l)
	o, l = tour.Call(b, job(0, 0, 0, 0, round...))
	put("Call", o, l)
}

// reportNumber calls each function that takes a place, a job or a way.
func reportNumber(b api.TourBook, n int, put func(name string, values ...any)) {
	works, l := tour.Works(b, n)
	put("Works", n, works, l)
	for _, m := range []int{math.MinInt, 0, 1, 30, math.MaxInt} {
		far, l := tour.Far(b, n, m)
		put("Far", n, m, far, l)
		o, l := tour.Time(b, n, to(0, m))
		put("Time", n, m, o, l)
		o, l = tour.Time(b, 0, to(n, m))
		put("Time", n, m, o, l)
		o, l = tour.Note(b, note(n, m, 0))
		put("Note", n, m, o, l)
		o, l = tour.Call(b, job(n, m, m, 9, make([]int, max(0, min(b.Kinds, 9)))...))
		put("Call", n, m, o, l)
		o, l = tour.Call(b, job(0, n, m, m, n))
		put("Call", n, m, o, l)
	}
}
