package tour_test

import (
	"math"
	"slices"
	"strings"
	"testing"

	"nosale/api"
	"nosale/tour"
)

// bellCase is a change of the book T, and the bell that it has then.
type bellCase struct {
	name   string
	change func(b *api.TourBook)
	want   api.Bell
}

// all makes several changes.
func all(changes ...func(b *api.TourBook)) func(b *api.TourBook) {
	return func(b *api.TourBook) {
		for _, change := range changes {
			change(b)
		}
	}
}

// bag, kinds, places, ways, jobs and notes put others in the place of those of a book.
func bag(n int) func(b *api.TourBook)   { return func(b *api.TourBook) { b.Bag = n } }
func kinds(n int) func(b *api.TourBook) { return func(b *api.TourBook) { b.Kinds = n } }
func places(list ...string) func(b *api.TourBook) {
	return func(b *api.TourBook) { b.Places = list }
}
func ways(list ...api.TourWay) func(b *api.TourBook) {
	return func(b *api.TourBook) { b.Ways = list }
}
func jobs(list ...api.TourJob) func(b *api.TourBook) {
	return func(b *api.TourBook) { b.Jobs = list }
}
func notes(list ...api.TourNote) func(b *api.TourBook) {
	return func(b *api.TourBook) { b.Notes = list }
}

// way returns a way.
func way(a, b, low, high int) api.TourWay { return api.TourWay{A: a, B: b, Time: to(low, high)} }

// headCases are those of the numbers of a book.
func headCases() []bellCase {
	return []bellCase{
		{"the book T", all(), api.Fine},
		{"a bag at the limit", bag(9), api.Fine}, {"a bag above the limit", bag(10), api.Bound}, {"a bag for nothing", bag(0), api.Fine}, {"a bag below 0", bag(-1), api.Bound}, {"a very great bag", bag(math.MaxInt), api.Bound}, {"a very small bag", bag(math.MinInt), api.Bound},
		{"no kinds", all(kinds(0), jobs()), api.Fine}, {"kinds at the limit", all(kinds(3), jobs()), api.Fine}, {"kinds above the limit", all(kinds(4), jobs()), api.Bound}, {"kinds below 0", all(kinds(-1), jobs()), api.Bound}, {"very many kinds", kinds(math.MaxInt), api.Bound}, {"very few kinds", kinds(math.MinInt), api.Bound}, {"more kinds than jobs tell of", kinds(2), api.Count}, {"fewer kinds than jobs tell of", kinds(0), api.Count},
		// the first one decides
		{"a wrong bag, and no places", all(bag(10), places()), api.Bound}, {"wrong kinds, and too many ways", all(kinds(4), ways(make([]api.TourWay, 6)...)), api.Bound},
	}
}

// placeCases are those of places, and of how they are reached.
func placeCases() []bellCase {
	bute := func(name string) func(b *api.TourBook) { return func(b *api.TourBook) { b.Places[2] = name } }
	one := all(ways(), jobs())
	return []bellCase{
		{"no places", places(), api.Count}, {"no places, and nothing else", all(one, places()), api.Count}, {"one place", all(one, places("a")), api.Fine}, {"places at the limit", all(places("a", "b", "c", "d"), ways(way(0, 1, 0, 0), way(0, 2, 0, 0), way(0, 3, 0, 0))), api.Fine}, {"places above the limit", places("a", "b", "c", "d", "e"), api.Count}, {"very many places", places(make([]string, 1000000)...), api.Count},
		{"no name", bute(""), api.Label}, {"a name in capitals", bute("Bute"), api.Label}, {"a name that begins with a digit", bute("0a"), api.Label}, {"a name with a digit", bute("a0"), api.Fine}, {"a name at the limit", bute("abcdefghij"), api.Fine}, {"a name above the limit", bute("abcdefghijk"), api.Label}, {"a name with a blank", bute("b ute"), api.Label}, {"a name of other bytes", bute("\xff"), api.Label}, {"a very long name", bute(strings.Repeat("a", 1000000)), api.Label},
		{"the same name", bute("ayr"), api.Twice}, {"the same name, not side by side", bute("works"), api.Twice}, {"another name of the works", func(b *api.TourBook) { b.Places[0] = "home" }, api.Fine},
		// reached
		{"a place that is not reached", places("works", "ayr", "bute", "oban"), api.Short}, {"no ways", all(one, places("a", "b")), api.Short}, {"one place is not reached", all(places("works", "ayr", "bute", "oban"), ways(way(0, 1, 0, 0), way(2, 3, 0, 0), way(0, 2, 0, 0))), api.Fine}, {"two places reach each other alone", all(places("works", "ayr", "bute", "oban"), ways(way(0, 1, 0, 0), way(2, 3, 0, 0))), api.Short}, {"the works alone are not reached", ways(way(1, 2, 0, 0)), api.Short}, {"a place that is reached by way of the next one", ways(way(1, 2, 0, 0), way(0, 2, 0, 0)), api.Fine}, {"all places in a row", all(places("a", "b", "c", "d"), ways(way(2, 3, 0, 0), way(1, 3, 0, 0), way(0, 2, 0, 0))), api.Fine},
		// the first one decides
		{"too many places, all wrong", places("", "", "", "", ""), api.Count}, {"no name, before the same name", all(bute("ayr"), func(b *api.TourBook) { b.Places[1] = "" }), api.Label}, {"no name twice", all(bute(""), func(b *api.TourBook) { b.Places[1] = "" }), api.Label}, {"the same name, and too many ways", all(bute("ayr"), ways(make([]api.TourWay, 6)...)), api.Twice}, {"a place that is not reached, and too many jobs", all(places("works", "ayr", "bute", "oban"), jobs(make([]api.TourJob, 5)...)), api.Short}, {"a wrong way, and a place that is not reached", ways(way(0, 1, 5, 4)), api.Bound},
	}
}

// wayCases are those of ways.
func wayCases() []bellCase {
	one := func(a, b, low, high int) func(b *api.TourBook) {
		return ways(way(0, 1, 2, 3), way(a, b, low, high), way(0, 2, 5, 5))
	}
	four := func(list ...api.TourWay) func(b *api.TourBook) {
		return all(places("a", "b", "c", "d"), ways(list...))
	}
	five := []api.TourWay{way(2, 3, 0, 0), way(1, 3, 0, 0), way(1, 2, 0, 0), way(0, 3, 0, 0), way(0, 2, 0, 0)}
	return []bellCase{
		{"ways at the limit", four(five...), api.Fine}, {"ways above the limit", four(append(five, way(0, 1, 0, 0))...), api.Count}, {"very many ways", ways(make([]api.TourWay, 1000000)...), api.Count}, {"a way of zero values", ways(make([]api.TourWay, 1)...), api.Order},
		{"a way from below", one(-1, 2, 4, 4), api.Missing}, {"a way from above", one(3, 2, 4, 4), api.Missing}, {"a way to above", one(1, 3, 4, 4), api.Missing}, {"a way to below", one(1, -1, 4, 4), api.Missing}, {"a way from far away", one(math.MinInt, 2, 4, 4), api.Missing}, {"a way to far away", one(1, math.MaxInt, 4, 4), api.Missing},
		{"a way back", one(2, 1, 4, 4), api.Order}, {"a way to where it is from", one(1, 1, 4, 4), api.Order},
		{"the same way", one(0, 1, 4, 4), api.Twice}, {"a way that comes again later", one(0, 2, 4, 4), api.Twice}, {"the same way of the same time", one(0, 1, 2, 3), api.Twice},
		{"a way of no time", one(1, 2, 0, 0), api.Fine}, {"a time at the limit", one(1, 2, 29, 30), api.Fine}, {"a time above the limit", one(1, 2, 30, 31), api.Bound}, {"a time below 0", one(1, 2, -1, 0), api.Bound}, {"a time too wide", one(1, 2, 4, 6), api.Bound}, {"a time that is no span", one(1, 2, 5, 4), api.Bound}, {"a time very wide", one(1, 2, math.MinInt, math.MaxInt), api.Bound}, {"a time that is no span at all", one(1, 2, math.MaxInt, math.MinInt), api.Bound},
		// the first one decides
		{"too many ways, all wrong", ways(slices.Repeat([]api.TourWay{way(9, 9, 9, 0)}, 6)...), api.Count}, {"no place, and out of order", one(3, 1, 5, 4), api.Missing}, {"out of order, and too wide", one(2, 1, 4, 9), api.Order}, {"the same way, and too wide", one(0, 1, 4, 9), api.Twice}, {"a wrong way, before no place", ways(way(0, 1, 2, 9), way(0, 9, 1, 1)), api.Bound}, {"a wrong way, and too many jobs", all(one(1, 2, 5, 4), jobs(make([]api.TourJob, 5)...)), api.Bound},
	}
}

// jobCases are those of jobs.
func jobCases() []bellCase {
	one := func(place, low, high, due int, parts ...int) func(b *api.TourBook) {
		return jobs(job(1, 1, 1, 5, 2), job(place, low, high, due, parts...))
	}
	three := func(parts ...int) func(b *api.TourBook) { return all(kinds(3), jobs(job(0, 0, 0, 0, parts...))) }
	fit := job(0, 0, 0, 0, 0)
	return []bellCase{
		{"no jobs", jobs(), api.Fine}, {"jobs at the limit", jobs(fit, fit, fit, fit), api.Fine}, {"jobs above the limit", jobs(fit, fit, fit, fit, fit), api.Count}, {"very many jobs", jobs(make([]api.TourJob, 1000000)...), api.Count},
		{"a job at no place", one(3, 1, 1, 5, 2), api.Missing}, {"a job at a place below 0", one(-1, 1, 1, 5, 2), api.Missing}, {"a job far away", one(math.MaxInt, 1, 1, 5, 2), api.Missing}, {"a job far below", one(math.MinInt, 1, 1, 5, 2), api.Missing}, {"a job at the last place", one(2, 1, 1, 5, 2), api.Fine},
		{"no work", one(0, 0, 0, 5, 2), api.Fine}, {"work at the limit", one(0, 29, 30, 5, 2), api.Fine}, {"work above the limit", one(0, 30, 31, 5, 2), api.Bound}, {"work below 0", one(0, -1, 0, 5, 2), api.Bound}, {"work too wide", one(0, 1, 3, 5, 2), api.Bound}, {"work that is no span", one(0, 2, 1, 5, 2), api.Bound}, {"work very wide", one(0, math.MinInt, math.MaxInt, 5, 2), api.Bound},
		{"due at once", one(0, 1, 1, 0, 2), api.Fine}, {"due at the limit", one(0, 1, 1, 200, 2), api.Fine}, {"due above the limit", one(0, 1, 1, 201, 2), api.Bound}, {"due below 0", one(0, 1, 1, -1, 2), api.Bound}, {"due very late", one(0, 1, 1, math.MaxInt, 2), api.Bound}, {"due very early", one(0, 1, 1, math.MinInt, 2), api.Bound},
		{"no parts of a kind", one(0, 1, 1, 5, 0), api.Fine}, {"parts at the limit", one(0, 1, 1, 5, 5), api.Fine}, {"parts above the limit", one(0, 1, 1, 5, 6), api.Bound}, {"parts below 0", one(0, 1, 1, 5, -1), api.Bound}, {"very many parts of a kind", one(0, 1, 1, 5, math.MaxInt), api.Bound}, {"no number of parts", one(0, 1, 1, 5), api.Count}, {"parts of one kind more", one(0, 1, 1, 5, 1, 1), api.Count}, {"parts of very many kinds", one(0, 1, 1, 5, make([]int, 1000000)...), api.Count}, {"parts of three kinds", three(5, 5, 5), api.Fine}, {"parts of two of three kinds", three(5, 5), api.Count}, {"the last number of parts is wrong", three(0, 0, 6), api.Bound}, {"more parts than the bag holds", all(bag(0), one(0, 1, 1, 5, 5)), api.Fine},
		// the first one decides
		{"too many jobs, all wrong", jobs(slices.Repeat([]api.TourJob{job(9, 5, 4, -1)}, 5)...), api.Count}, {"no place, and wrong work", one(3, 2, 1, 5, 2), api.Missing}, {"wrong work, and no parts", one(0, 2, 1, 5), api.Bound}, {"wrongly due, and no parts", one(0, 1, 1, 201), api.Bound}, {"too many parts, all wrong", one(0, 1, 1, 5, 6, 6), api.Count}, {"a wrong job, before no place", jobs(job(1, 1, 1, 201, 2), job(3, 1, 1, 5, 2)), api.Bound}, {"no number of parts, and too many notes", all(one(0, 1, 1, 5), notes(make([]api.TourNote, 5)...)), api.Count}, {"no place, and too many notes", all(one(3, 1, 1, 5, 2), notes(make([]api.TourNote, 5)...)), api.Missing},
	}
}

// noteCases are those of notes.
func noteCases() []bellCase {
	one := func(low, high int, ways ...int) func(b *api.TourBook) {
		return notes(note(4, 4, 1), note(low, high, ways...))
	}
	return []bellCase{
		{"notes at the limit", notes(make([]api.TourNote, 4)...), api.Fine}, {"notes above the limit", notes(make([]api.TourNote, 5)...), api.Count}, {"very many notes", notes(make([]api.TourNote, 1000000)...), api.Count},
		{"a note of no ways", one(0, 0), api.Fine}, {"a note of all ways", one(0, 200, 2, 0, 1), api.Fine}, {"a trip at the limit", one(0, 200, 0, 0, 0, 0, 0), api.Fine}, {"a trip above the limit", one(0, 200, 0, 0, 0, 0, 0, 0), api.Count}, {"a very long trip", one(0, 200, make([]int, 1000000)...), api.Count}, {"ways that do not follow each other", one(0, 200, 1, 1, 1), api.Fine},
		{"a trip over no way", one(0, 200, 0, 3), api.Missing}, {"a trip over a way below 0", one(0, 200, -1), api.Missing}, {"a trip far away", one(0, 200, math.MaxInt), api.Missing}, {"a trip far below", one(0, 200, math.MinInt), api.Missing},
		{"it took nothing", one(0, 0, 1), api.Fine}, {"it took as much as can be", one(200, 200, 1), api.Fine}, {"it took more than can be", one(0, 201, 1), api.Bound}, {"it took less than nothing", one(-1, 9, 1), api.Bound}, {"what it took is no span", one(9, 8, 1), api.Bound}, {"what it took is very wide", one(math.MinInt, math.MaxInt, 1), api.Bound}, {"notes that contradict each other", notes(note(4, 4, 1), note(3, 3, 1)), api.Fine},
		// the first one decides
		{"too many notes, all wrong", notes(slices.Repeat([]api.TourNote{note(9, 8, 9)}, 5)...), api.Count}, {"a trip too long, over no ways", one(0, 9, 9, 9, 9, 9, 9, 9), api.Count}, {"no way, and no span", one(9, 8, 9), api.Missing}, {"a wrong note, before no way", notes(note(9, 8, 1), note(0, 9, 9)), api.Bound}, {"a wrong note, before a trip too long", notes(note(0, 9, 9), note(0, 9, 0, 0, 0, 0, 0, 0)), api.Missing},
	}
}

// bellCases returns all cases.
func bellCases() []bellCase {
	return slices.Concat(headCases(), placeCases(), wayCases(), jobCases(), noteCases())
}

// P9.1, P0.2: CheckBook returns the first bell, which all functions return then, with nothing else.
func TestBells(t *testing.T) {
	for _, x := range bellCases() {
		b := parse(t, textT)
		x.change(&b)
		if l := tour.CheckBook(b); l != x.want {
			t.Errorf("%s: bell %d, want %d", x.name, l, x.want)
		}
		if x.want != api.Fine {
			onlyBell(t, x.name, b, x.want)
		}
	}
}

// onlyBell tells whether all functions return the bell of a book, and nothing else, even if they are asked for what is not there.
func onlyBell(t *testing.T, name string, b api.TourBook, want api.Bell) {
	t.Helper()
	if got := ofBook(b); got != bookAlone(want) {
		t.Errorf("%s: %s, want the bell %d alone", name, got, want)
	}
	for _, n := range []int{0, 1, 99, -1} {
		if got := ofThings(b, n); got != thingsAlone(want) {
			t.Errorf("%s, %d: %s, want the bell %d alone", name, n, got, want)
		}
		for _, round := range [][]int{{n}, {0, n, 0}} {
			if got := ofRound(b, round, n); got != roundAlone(want) {
				t.Errorf("%s, %v: %s, want the bell %d alone", name, round, got, want)
			}
		}
	}
}

// ofBook writes the results of the functions that are asked about nothing of the book.
func ofBook(b api.TourBook) string {
	many, l := tour.Histories(b)
	clash, l2 := tour.Clash(b)
	text, l3 := tour.Print(b)
	called, l4 := tour.Call(b, job(9, 9, 0, -1))
	best, home, l5 := tour.Best(b)
	never, l6 := tour.Never(b)
	way, left, l7 := tour.Ask(b)
	noted, l8 := tour.Note(b, note(0, 300, 9))
	return show(many, clash, text, called, best, home, never, way, left, noted, l, l2, l3, l4, l5, l6, l7, l8)
}

// bookAlone writes the results of these functions if all of them have a bell.
func bookAlone(l api.Bell) string {
	none := api.TourBook{}
	return show(0, []int{}, "", none, []int{}, api.Span{}, []int{}, 0, 0, none, l, l, l, l, l, l, l, l)
}

// ofThings writes the results of the functions that are asked about a place, a job or a way.
func ofThings(b api.TourBook, n int) string {
	far, l := tour.Far(b, n, n)
	works, l2 := tour.Works(b, n)
	known, l3 := tour.Time(b, n, to(n, n))
	return show(far, works, known, l, l2, l3)
}

// thingsAlone writes the results of these functions if all of them have a bell.
func thingsAlone(l api.Bell) string {
	return show(api.Span{}, []int{}, api.TourBook{}, l, l, l)
}

// ofRound writes the results of the functions that are asked about a round.
func ofRound(b api.TourBook, round []int, at int) string {
	load, l := tour.Load(b, round)
	fits, l2 := tour.Fits(b, round)
	ends, l3 := tour.Ends(b, round)
	late, l4 := tour.Late(b, round, at)
	home, l5 := tour.Home(b, round)
	safe, l6 := tour.Safe(b, round)
	swiftest, home2, l7 := tour.Swiftest(b, round)
	return show(load, fits, ends, late, home, safe, swiftest, home2, l, l2, l3, l4, l5, l6, l7)
}

// roundAlone writes the results of these functions if all of them have a bell.
func roundAlone(l api.Bell) string {
	return show([]int{}, false, []api.Span{}, api.Open, api.Span{}, false, []int{}, api.Span{}, l, l, l, l, l, l, l)
}

// P9.1, P9.2, P0.2: what is asked about and is not there comes before the other bells; of a round the first number that has a bell decides. All of that comes before it is Odds that there is no history.
func TestBellsBeforeOdds(t *testing.T) {
	for _, text := range []string{textT, textOdd} {
		b := parse(t, text)
		for _, n := range []int{math.MinInt, -1, 3, math.MaxInt} {
			if got := ofThings(b, n); got != thingsAlone(api.Missing) {
				t.Errorf("%q, %d: %s", text, n, got)
			}
			far, l := tour.Far(b, 0, n)
			far2, l2 := tour.Far(b, n, 0)
			if got := show(far, far2, l, l2); got != show(api.Span{}, api.Span{}, api.Missing, api.Missing) {
				t.Errorf("%q, %d: %s", text, n, got)
			}
			for _, round := range [][]int{{n}, {0, n}, {1, n, 1}, {n, n}, {2, 1, 0, n}} {
				if got := ofRound(b, round, 9); got != roundAlone(api.Missing) {
					t.Errorf("%q, %v: %s", text, round, got)
				}
			}
		}
		for _, round := range [][]int{{0, 0}, {1, 2, 1}, {0, 0, 3}, {2, 1, 0, 0}, make([]int, 1000000)} {
			if got := ofRound(b, round, -1); got != roundAlone(api.Twice) {
				t.Errorf("%q, %.40v: %s", text, round, got)
			}
		}
		for _, at := range []int{math.MinInt, -1, 2, math.MaxInt} {
			sure, l := tour.Late(b, []int{0, 1}, at)
			none, l2 := tour.Late(b, nil, at)
			known, l3 := tour.Time(b, 1, to(at, 31))
			if got := show(sure, none, known, l, l2, l3); got != show(api.Open, api.Open, api.TourBook{}, api.Bound, api.Bound, api.Bound) {
				t.Errorf("%q, %d: %s", text, at, got)
			}
		}
	}
}

// P9.1, P9.2, P9.3: without a history most functions have the bell Odds, with nothing else; but Histories, Load, Fits, Clash, Call and Print do not ask for one.
func TestOdds(t *testing.T) {
	b, o := parse(t, textOdd), api.Odds
	if got := ofThings(b, 1); got != thingsAlone(api.Odds) {
		t.Error(got)
	}
	if got, want := ofRound(b, []int{1, 0}, 1), show([]int{3}, true, []api.Span{}, api.Open, api.Span{}, false, []int{}, api.Span{}, 0, 0, o, o, o, o, o); got != want {
		t.Errorf("%s, want %s", got, want)
	}
	called, l := tour.Call(b, job(0, 0, 0, 0, 0))
	text, l2 := tour.Print(called)
	if text != strings.Replace(textOdd, "note", "job 0 0 0 0\nnote", 1) || l+l2 != api.Fine {
		t.Error(text, l, l2)
	}
	noted, l := tour.Note(b, note(0, 0))
	many, l2 := tour.Histories(b)
	clash, l3 := tour.Clash(b)
	best, home, l4 := tour.Best(b)
	never, l5 := tour.Never(b)
	way, left, l6 := tour.Ask(b)
	if got, want := show(noted, many, clash, best, home, never, way, left, l, l2, l3, l4, l5, l6), show(api.TourBook{}, 0, []int{0}, []int{}, api.Span{}, []int{}, 0, 0, o, 0, 0, o, o, o); got != want {
		t.Errorf("%s, want %s", got, want)
	}
	layer().Parses(t, textOdd, 0, api.Fine)
}
