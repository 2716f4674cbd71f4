package tour_test

import (
	"math"
	"slices"
	"strings"
	"testing"

	"nosale/api"
	"nosale/dice"
	"nosale/oracle"
	"nosale/tour"
)

// P0.1: each function returns, whatever it is called with, and returns the same to several goroutines; it changes nothing.
func TestAlwaysTheSame(t *testing.T) {
	d := dice.Dice(6)
	books := []api.TourBook{{}}
	for _, text := range texts() {
		books = append(books, parse(t, text))
	}
	for i, x := range bellCases() {
		b := parse(t, textT)
		x.change(&b)
		if len(show(b)) < 10000 && (x.want != api.Fine || i%10 == 0) {
			books = append(books, b)
		}
	}
	for i := range 20 {
		b, _ := anyBook(&d, i%2 == 0)
		books = append(books, b)
	}
	layer().AlwaysTheSame(t, report, books...)
}

// P0.1: numbers that are very great or very small, strings of any bytes, and slices that are very long, have a bell.
func TestGarbage(t *testing.T) {
	d := dice.Dice(7)
	odd := []int{math.MinInt, -1000, -1, 0, 0, 1, 1, 2, 3, 5, 9, 30, 200, 201, math.MaxInt}
	pick := func() int { return odd[d.Roll(len(odd))] }
	several := func() []int { return []int{pick(), pick(), pick()}[:d.Roll(4)] }
	for range 300 {
		b, _ := anyBook(&d, true)
		if d.Roll(4) == 0 {
			b.Bag, b.Kinds = pick(), pick()
		}
		for range d.Roll(2) {
			b.Places = append(b.Places, []string{"x", "\xff", ""}[d.Roll(3)])
		}
		for range d.Roll(2) {
			b.Ways = append(b.Ways, way(pick(), pick(), pick(), pick()))
		}
		for range d.Roll(2) {
			b.Jobs = append(b.Jobs, job(pick(), pick(), pick(), pick(), several()...))
		}
		for range d.Roll(2) {
			b.Notes = append(b.Notes, note(pick(), pick(), several()...))
		}
		report(b)
	}
}

// P0.1: the bells of a million of anything come at once.
func TestMillions(t *testing.T) {
	b := parse(t, textT)
	million := make([]int, 1000000)
	_, l := tour.Ends(b, million)
	_, l2 := tour.Late(b, million, 9)
	_, _, l3 := tour.Swiftest(b, million)
	_, l4 := tour.Note(b, note(0, 9, million...))
	_, l5 := tour.Call(b, job(0, 0, 0, 0, million...))
	_, _, l6 := tour.Parse(strings.Repeat("place a\n", 1000000))
	if got := show(l, l2, l3, l4, l5, l6); got != show(api.Twice, api.Twice, api.Twice, api.Count, api.Count, api.Count) {
		t.Error(got)
	}
}

// P9.1, P9.2, P0.1: a book of which all is as great as it can be, and open.
func TestGreatBook(t *testing.T) {
	b := api.TourBook{Bag: api.MaxTourBag, Kinds: api.MaxTourKinds, Places: []string{"a", "b", "c", "d"}}
	// all places in a row, and two ways that are never shorter
	for _, w := range [][2]int{{0, 1}, {1, 2}, {2, 3}, {0, 2}, {1, 3}} {
		b.Ways = append(b.Ways, way(w[0], w[1], 29, 30))
	}
	b.Ways[3].Time, b.Ways[4].Time = to(0, 1), to(29, 30)
	for range api.MaxTourJobs {
		b.Jobs = append(b.Jobs, job(3, 29, 30, api.MaxTourDue, 1, 0, 1))
	}
	b.Notes = slices.Repeat([]api.TourNote{note(0, api.MaxTourTook, 0, 1, 2, 3, 4)}, api.MaxTourNotes)
	many, l := tour.Histories(b)
	far, l2 := tour.Far(b, 3, 0)
	best, home, l3 := tour.Best(b)
	swiftest, _, l4 := tour.Swiftest(b, []int{3, 2, 1, 0})
	way, left, l5 := tour.Ask(b)
	never, l6 := tour.Never(b)
	if got, want := show(many, far, best, home, swiftest, way, left, never, l, l2, l3, l4, l5, l6), show(512, to(29, 31), []int{0, 1, 2, 3}, to(58+116, 62+120), []int{0, 1, 2, 3}, 0, 256, []int{}, 0, 0, 0, 0, 0, 0); got != want {
		t.Errorf("%s, want %s", got, want)
	}
	b.Notes[3].Took = to(0, 0)
	if list, l := tour.Clash(b); !slices.Equal(list, []int{3}) || l != api.Fine {
		t.Errorf("Clash: %v, bell %d", list, l)
	}
}

// R3: it makes no difference whether a slice is nil or has no elements.
func TestNilOrEmpty(t *testing.T) {
	none := api.TourBook{Bag: 1, Places: []string{"a"}}
	empty := clone(none)
	empty.Ways, empty.Jobs, empty.Notes = []api.TourWay{}, []api.TourJob{}, []api.TourNote{}
	if report(empty) != report(none) {
		t.Error("empty slices and none make a difference")
	}
	none.Jobs, none.Notes = []api.TourJob{{}}, []api.TourNote{{}}
	empty = clone(none)
	empty.Jobs[0].Parts, empty.Notes[0].Ways = []int{}, []int{}
	if report(empty) != report(none) {
		t.Error("empty parts and trips, and none, make a difference")
	}
	if l, l2 := tour.CheckBook(api.TourBook{}), tour.CheckBook(api.TourBook{Places: []string{}}); l != l2 || l != api.Count {
		t.Errorf("without places: bells %d, %d", l, l2)
	}
	for _, round := range [][]int{nil, {}} {
		if got, want := ofRound(none, round, 0), show([]int{}, true, []api.Span{}, api.Open, api.Span{}, true, []int{}, api.Span{}, 0, 0, 0, api.Bound, 0, 0, 0); got != want {
			t.Errorf("the round without jobs: %s, want %s", got, want)
		}
	}
}

// spoil changes all that a book has.
func spoil(b api.TourBook) {
	for i := range b.Places {
		b.Places[i] = "x"
	}
	for i := range b.Ways {
		b.Ways[i].A = 77
	}
	for i, j := range b.Jobs {
		for kind := range j.Parts {
			j.Parts[kind] = 77
		}
		b.Jobs[i].Due = 77
	}
	for i, n := range b.Notes {
		for i := range n.Ways {
			n.Ways[i] = 77
		}
		b.Notes[i].Took = to(77, 77)
	}
}

// R4: books that are returned share no memory with those that are handed in, nor with what is new.
func TestNoSharedMemory(t *testing.T) {
	const text = textT + "note 0+1 6..7\n"
	fresh, part := note(9, 200, 0, 0, 1), job(0, 0, 0, 9, 4)
	news := func(b api.TourBook) []api.TourBook {
		noted, l := tour.Note(b, fresh)
		known, l2 := tour.Time(b, 0, to(3, 3))
		called, l3 := tour.Call(b, part)
		if l+l2+l3 != api.Fine {
			t.Fatal(l, l2, l3)
		}
		return []api.TourBook{noted, known, called}
	}
	// room behind the elements must not be written to
	b := parse(t, text)
	b.Places = append(make([]string, 0, 9), b.Places...)
	b.Ways = append(make([]api.TourWay, 0, 9), b.Ways...)
	b.Jobs = append(make([]api.TourJob, 0, 9), b.Jobs...)
	b.Notes = append(make([]api.TourNote, 0, 9), b.Notes...)
	jobs, notes := b.Jobs[:4], b.Notes[:2]
	for _, o := range news(b) {
		spoil(o)
	}
	if text2, _ := tour.Print(b); text2 != text || show(jobs[3], notes[1], fresh, part) != show(api.TourJob{}, api.TourNote{}, note(9, 200, 0, 0, 1), job(0, 0, 0, 9, 4)) {
		t.Errorf("a result shares memory with what was handed in: %q, %v, %v, %v, %v", text2, jobs, notes, fresh, part)
	}
	all := news(b)
	spoil(b)
	fresh.Ways[0], part.Parts[0] = 77, 77
	for i, want := range []string{text + "note 0+0+1 9..200\n", strings.Replace(text, "2..3", "3", 1), strings.Replace(text, "note", "job 0 0 9 4\nnote", 1)} {
		if text, _ := tour.Print(all[i]); text != want {
			t.Errorf("what was handed in shares memory with a result: %q", text)
		}
	}
}

// R4: lists that are handed in stay as they were, and results share no memory with them.
func TestNoSharedLists(t *testing.T) {
	b := parse(t, textT)
	round := append(make([]int, 0, 9), 2, 1, 0)
	load, l := tour.Load(b, round)
	ends, l2 := tour.Ends(b, round)
	swiftest, _, l3 := tour.Swiftest(b, round)
	load[0], ends[0], swiftest[0] = 77, to(77, 77), 77
	_, l4 := tour.Late(b, round, 0)
	_, l5 := tour.Safe(b, round)
	if got := show(round[:4], l, l2, l3, l4, l5); got != "[[2 1 0 0] 0 0 0 0 0]" {
		t.Error(got)
	}
	if text, _ := tour.Print(b); text != textT {
		t.Errorf("the book was changed: %q", text)
	}
}

// holds tells whether all that is told of a book is so.
func holds(t *testing.T, b api.TourBook, p past) {
	t.Helper()
	wrong := func(name string, of, told any, l api.Bell) {
		t.Helper()
		t.Errorf("%+v, %+v: %s %v is %v, bell %d", b, p, name, of, told, l)
	}
	if n, l := tour.Histories(b); n < 1 || l != api.Fine {
		t.Fatalf("%+v: what is so is no history: %+v: %d, bell %d", b, p, n, l)
	}
	for one := range b.Places {
		for two := range b.Places {
			if s, l := tour.Far(b, one, two); !oracle.Has(s, p.far[one][two]) || l != api.Fine {
				wrong("Far", [2]int{one, two}, s, l)
			}
		}
	}
	for job := range b.Jobs {
		if list, l := tour.Works(b, job); !slices.Contains(list, p.works[job]) || l != api.Fine {
			wrong("Works", job, list, l)
		}
	}
	for _, round := range roundsOf(b) {
		holdsOfRound(t, b, p, round)
	}
	best, s, l := tour.Best(b)
	if !oracle.Has(s, homeOf(b, p, best)) || !isOnTime(b, p, best) || l != api.Fine {
		wrong("Best", best, s, l)
	}
	if list, l := tour.Clash(b); len(list) > 0 || l != api.Fine {
		wrong("Clash", "", list, l)
	}
	if way, left, l := tour.Ask(b); left < 1 || l != api.Fine {
		wrong("Ask", way, left, l)
	}
	// what is measured, or noted, is possible
	for i, n := range p.ways {
		if o, l := tour.Time(b, i, to(n, n)); l != api.Fine {
			wrong("Time", i, o, l)
		}
	}
}

// isOnTime tells whether no job of a round is really late.
func isOnTime(b api.TourBook, p past, round []int) bool {
	for at := range round {
		if isLateIn(b, p, round, at) {
			return false
		}
	}
	return true
}

// holdsOfRound tells whether all that is told of a round is so.
func holdsOfRound(t *testing.T, b api.TourBook, p past, round []int) {
	t.Helper()
	ends, home := travel(b, p, round)
	told, l := tour.Ends(b, round)
	when, l2 := tour.Home(b, round)
	safe, l3 := tour.Safe(b, round)
	if len(told) != len(round) || !oracle.Has(when, home) || safe && !isOnTime(b, p, round) || l+l2+l3 != api.Fine {
		t.Fatalf("%+v, %+v: the round %v ends %v, home %v, safe %v, bells %d, %d, %d", b, p, round, told, when, safe, l, l2, l3)
	}
	for at, end := range ends {
		if late, l := tour.Late(b, round, at); !oracle.Has(told[at], end) || !oracle.IsSo(late, end > b.Jobs[round[at]].Due) || l != api.Fine {
			t.Errorf("%+v, %+v: in the round %v %d ends at %d: %v, late %d, bell %d", b, p, round, at, end, told[at], late, l)
		}
	}
}

// P9.5, P0.4: whatever times the ways and works really take, each job ends, and the traveller is home, within what is said, and no job of a safe round is late.
func TestWhateverTheTimesAre(t *testing.T) {
	d := dice.Dice(8)
	jobs := 0
	for range 300 {
		b, real := anyBook(&d, false)
		holds(t, b, real)
		jobs += len(b.Jobs)
	}
	if jobs < 300 {
		t.Errorf("there were only %d jobs", jobs)
	}
}

// certain returns a book that says just what is so.
func certain(b api.TourBook, p past) api.TourBook {
	b = clone(b)
	for i, n := range p.ways {
		b.Ways[i].Time = to(n, n)
	}
	for i, n := range p.works {
		b.Jobs[i].Work = to(n, n)
	}
	return b
}

// P9.6: what is told of a book is just what books tell that say all of a history, taken together: both ends of each span are those of one, and what is Open is so in one and is not in another one.
func TestReached(t *testing.T) {
	d := dice.Dice(9)
	open := 0
	for i := range 120 {
		b, _ := anyBook(&d, i%2 == 0)
		var all []api.TourBook
		for _, p := range pasts(b) {
			all = append(all, certain(b, p))
		}
		if len(all) == 0 {
			continue
		}
		// reached compares a span with those of all histories, each of which is one number.
		reached := func(name string, of any, told api.Span, tell func(o api.TourBook) api.Span) {
			t.Helper()
			for _, o := range all {
				if s := tell(o); s.Low != s.High {
					t.Errorf("%+v: %s %v is %v", o, name, of, s)
				}
			}
			if want := oracle.Span(all, func(o api.TourBook) int { return tell(o).Low }); told != want {
				t.Errorf("%+v: %s %v is %v, but reached are %v", b, name, of, told, want)
			}
		}
		for one := range b.Places {
			for two := range b.Places {
				s, _ := tour.Far(b, one, two)
				reached("Far", [2]int{one, two}, s, func(o api.TourBook) api.Span { s, _ := tour.Far(o, one, two); return s })
			}
		}
		for job := range b.Jobs {
			list, _ := tour.Works(b, job)
			if want := oracle.Numbers(all, func(o api.TourBook) int { list, _ := tour.Works(o, job); return list[0] }); !slices.Equal(list, want) {
				t.Errorf("%+v: Works %d is %v, but reached are %v", b, job, list, want)
			}
		}
		for _, round := range oracle.Kept(roundsOf(b), func(round []int) bool { return len(round) < 3 || d.Roll(8) == 0 }) {
			s, _ := tour.Home(b, round)
			reached("Home", round, s, func(o api.TourBook) api.Span { s, _ := tour.Home(o, round); return s })
			ends, _ := tour.Ends(b, round)
			for at := range round {
				reached("Ends", round, ends[at], func(o api.TourBook) api.Span { s, _ := tour.Ends(o, round); return s[at] })
				sure, _ := tour.Late(b, round, at)
				want := oracle.Sure(all, func(o api.TourBook) bool { sure, _ := tour.Late(o, round, at); return sure == api.Yes })
				if sure != want {
					t.Errorf("%+v: Late %v, %d is %d, but reached is %d", b, round, at, sure, want)
				}
				if sure == api.Open {
					open++
				}
			}
		}
	}
	if open < 30 {
		t.Errorf("only %d jobs were perhaps late", open)
	}
}

// fars returns the spans of the times between all places.
func fars(t *testing.T, b api.TourBook) [][]api.Span {
	t.Helper()
	var all [][]api.Span
	for one := range b.Places {
		all = append(all, nil)
		for two := range b.Places {
			s, l := tour.Far(b, one, two)
			if l != api.Fine {
				t.Fatalf("%+v: bell %d", b, l)
			}
			all[one] = append(all[one], s)
		}
	}
	return all
}

// P9.7: no way round is shorter than the time between two places, there and back take the same time.
func TestNoWayRound(t *testing.T) {
	d := dice.Dice(10)
	longer := 0
	for range 600 {
		b, real := anyBook(&d, false)
		far, sure := fars(t, b), fars(t, certain(b, real))
		for one := range b.Places {
			if far[one][one] != to(0, 0) {
				t.Errorf("%+v: from %d to itself it is %v", b, one, far[one][one])
			}
			for two := range b.Places {
				if far[one][two] != far[two][one] {
					t.Errorf("%+v: from %d to %d and back it is %v and %v", b, one, two, far[one][two], far[two][one])
				}
				for over := range b.Places {
					if sure[one][over].Low+sure[over][two].Low < sure[one][two].Low {
						t.Errorf("%+v: from %d to %d it really is shorter over %d: %v", b, one, two, over, sure)
					}
					// nor is it at the most (at the least two ways can be shorter, but not both in one history)
					if far[one][over].High+far[over][two].High < far[one][two].High {
						t.Errorf("%+v: from %d to %d it is shorter over %d: %v", b, one, two, over, far)
					}
				}
			}
		}
		for i, w := range b.Ways {
			if s := sure[w.A][w.B]; s.High > real.ways[i] {
				t.Errorf("%+v: the way %d is shorter than %v", b, i, s)
			} else if s.High < real.ways[i] {
				longer++
			}
		}
	}
	if longer < 40 {
		t.Errorf("only %d ways were longer than a way round", longer)
	}
}

// P9.7: a job that is left out never makes the traveller later, nor any other job, and a round that is safe stays so.
func TestLeftOut(t *testing.T) {
	d := dice.Dice(11)
	safe := 0
	for range 200 {
		b, _ := anyBook(&d, false)
		for _, round := range roundsOf(b) {
			ends, _ := tour.Ends(b, round)
			home, _ := tour.Home(b, round)
			is, _ := tour.Safe(b, round)
			for at := range round {
				less := slices.Delete(slices.Clone(round), at, at+1)
				fewer, l := tour.Ends(b, less)
				sooner, l2 := tour.Home(b, less)
				now, l3 := tour.Safe(b, less)
				if sooner.Low > home.Low || sooner.High > home.High || is && !now || l+l2+l3 != api.Fine {
					t.Errorf("%+v: %v: home %v, safe %v, %v: %v, %v, bells %d, %d, %d", b, round, home, is, less, sooner, now, l, l2, l3)
				}
				for i, s := range slices.Delete(slices.Clone(ends), at, at+1) {
					if fewer[i].Low > s.Low || fewer[i].High > s.High {
						t.Errorf("%+v: %v ends %v, %v: %v", b, round, ends, less, fewer)
					}
				}
				if is {
					safe++
				}
			}
		}
	}
	if safe < 300 {
		t.Errorf("only %d times the round was safe", safe)
	}
}

// P9.8: no safe round has more jobs than Best, or as many and is home earlier at the latest; a job of Never is late, or too heavy, by itself, and no other one is.
func TestNoneIsBetter(t *testing.T) {
	d := dice.Dice(12)
	nevers := 0
	for range 200 {
		b, _ := anyBook(&d, false)
		best, when, l := tour.Best(b)
		never, l2 := tour.Never(b)
		is, _ := tour.Safe(b, best)
		home, _ := tour.Home(b, best)
		if !is || home != when || l+l2 != api.Fine {
			t.Errorf("%+v: Best is %v, %v, safe %v, home %v, bells %d, %d", b, best, when, is, home, l, l2)
		}
		for _, round := range roundsOf(b) {
			safe, _ := tour.Safe(b, round)
			home, _ := tour.Home(b, round)
			better := len(round) > len(best) || len(round) == len(best) && (home.High < when.High || home.High == when.High && slices.Compare(round, best) < 0)
			if safe && better || safe && slices.ContainsFunc(round, func(job int) bool { return slices.Contains(never, job) }) {
				t.Errorf("%+v: %v is safe, home %v, Best is %v, %v, Never %v", b, round, home, best, when, never)
			}
		}
		for job := range b.Jobs {
			late, _ := tour.Late(b, []int{job}, 0)
			fits, _ := tour.Fits(b, []int{job})
			if slices.Contains(never, job) != (late != api.No || !fits) {
				t.Errorf("%+v: Never %v, the job %d: late %d, fits %v", b, never, job, late, fits)
			}
		}
		nevers += len(never)
	}
	if nevers < 60 {
		t.Errorf("only %d jobs were never", nevers)
	}
}

// P9.8: no order of jobs is swifter than Swiftest, whichever way they are listed.
func TestNoneIsSwifter(t *testing.T) {
	d := dice.Dice(13)
	for range 200 {
		b, _ := anyBook(&d, false)
		for _, jobs := range oracle.Subsets(len(b.Jobs)) {
			swiftest, when, l := tour.Swiftest(b, jobs)
			home, l2 := tour.Home(b, swiftest)
			if home != when || !slices.Equal(slices.Sorted(slices.Values(swiftest)), jobs) || l+l2 != api.Fine {
				t.Errorf("%+v: Swiftest of %v is %v, %v, home %v, bells %d, %d", b, jobs, swiftest, when, home, l, l2)
			}
			for _, order := range ordersOf(jobs) {
				home, _ := tour.Home(b, order)
				if home.High < when.High || home.High == when.High && slices.Compare(order, swiftest) < 0 {
					t.Errorf("%+v: Swiftest is %v, %v, but %v is home %v", b, swiftest, when, order, home)
				}
				if same, s, l := tour.Swiftest(b, order); !slices.Equal(same, swiftest) || s != when || l != api.Fine {
					t.Errorf("%+v: Swiftest of %v is %v, %v, bell %d, but of %v %v, %v", b, order, same, s, l, jobs, swiftest, when)
				}
			}
		}
	}
}
