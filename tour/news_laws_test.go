package tour_test

import (
	"slices"
	"testing"

	"nosale/api"
	"nosale/dice"
	"nosale/oracle"
	"nosale/promises"
	"nosale/tour"
)

// noMore tells whether o, in which more is known than in b, has no history that b did not have, makes nothing possible that was not, takes back nothing that was sure, and keeps each safe round safe.
func noMore(t *testing.T, b, o api.TourBook) {
	t.Helper()
	wrong := func(name string, values ...any) {
		t.Helper()
		t.Errorf("%+v, then %+v: %s %v", b, o, name, values)
	}
	before, _ := tour.Histories(b)
	if after, l := tour.Histories(o); after > before || after == 0 || l != api.Fine {
		wrong("Histories", before, after, l)
	}
	for one := range b.Places {
		for two := range b.Places {
			was, _ := tour.Far(b, one, two)
			if is, l := tour.Far(o, one, two); !oracle.IsNarrow(is, was) || l != api.Fine {
				wrong("Far", one, two, was, is, l)
			}
		}
	}
	for job := range b.Jobs {
		was, _ := tour.Works(b, job)
		if is, _ := tour.Works(o, job); !oracle.Within(is, was) || len(is) == 0 {
			wrong("Works", job, was, is)
		}
	}
	for _, round := range roundsOf(b) {
		ends, _ := tour.Ends(b, round)
		now, l := tour.Ends(o, round)
		was, _ := tour.Home(b, round)
		is, _ := tour.Home(o, round)
		safe, _ := tour.Safe(b, round)
		still, _ := tour.Safe(o, round)
		if !oracle.IsNarrow(is, was) || safe && !still || len(now) != len(ends) || l != api.Fine {
			wrong("Home, Safe", round, was, is, safe, still, l)
			continue
		}
		for at := range round {
			sure, _ := tour.Late(b, round, at)
			if late, _ := tour.Late(o, round, at); !oracle.IsNarrow(now[at], ends[at]) || sure != api.Open && late != sure {
				wrong("Ends, Late", round, at, ends, now, sure, late)
			}
		}
	}
	best, was, _ := tour.Best(b)
	better, is, _ := tour.Best(o)
	never, _ := tour.Never(b)
	less, _ := tour.Never(o)
	if len(better) < len(best) || len(better) == len(best) && is.High > was.High || !oracle.Within(less, never) {
		wrong("Best, Never", best, was, better, is, never, less)
	}
}

// news tells whether a function returned a book with just these histories, or Odds if there are none.
func news(t *testing.T, name string, b, o api.TourBook, l api.Bell, all []past) {
	t.Helper()
	if len(all) == 0 {
		if l != api.Odds {
			t.Errorf("%+v: %s: bell %d, but nothing is left", b, name, l)
		}
		return
	}
	if n, _ := tour.Histories(o); n != len(all) || l != api.Fine {
		t.Errorf("%+v: %s: %+v, bell %d, want %d histories", b, name, o, l, len(all))
		return
	}
	for _, p := range all {
		if !agrees(o, p) {
			t.Errorf("%+v: %s: %+v has not %+v", b, name, o, p)
		}
	}
	noMore(t, b, o)
}

// P9.9, P0.6: what is noted and measured leaves just the histories in which it is so.
func TestKnowingMore(t *testing.T) {
	d := dice.Dice(14)
	fewer, odds := 0, 0
	for range 300 {
		b, real := anyBook(&d, false)
		all := pasts(b)
		for i, w := range b.Ways {
			x := d.Around(w.Time.Low+d.Roll(3), 3, 0, api.MaxTourTime)
			left := oracle.Kept(all, func(p past) bool { return oracle.Has(x, p.ways[i]) })
			o, l := tour.Time(b, i, x)
			news(t, "measured", b, o, l, left)
		}
		if len(b.Notes) == api.MaxTourNotes {
			continue
		}
		n := anyNote(&d, b, real)
		n.Took = to(n.Took.Low+d.Roll(2), n.Took.High+1)
		left := oracle.Kept(all, func(p past) bool { return oracle.Has(n.Took, took(n.Ways, p.ways)) })
		o, l := tour.Note(b, n)
		news(t, "noted", b, o, l, left)
		if l != api.Fine {
			odds++
		} else if len(left) < len(all) {
			fewer++
		}
	}
	if fewer < 20 || odds < 20 {
		t.Errorf("notes took histories away %d times, all of them %d times", fewer, odds)
	}
}

// P9.9: notes that clash have no history alone, and no fewer do, nor as many that are a lesser list.
func TestClashAlone(t *testing.T) {
	d := dice.Dice(15)
	clashes := map[int]int{}
	for range 2000 {
		b, _ := anyBook(&d, true)
		list, l := tour.Clash(b)
		n, _ := tour.Histories(b)
		if (len(list) > 0) != (n == 0) || l != api.Fine {
			t.Errorf("%+v: %d histories, but %v clash, bell %d", b, n, list, l)
		}
		clashes[len(list)]++
		promises.Clash(t, show(b), len(b.Notes), list, func(some []int) int {
			n, _ := tour.Histories(alone(b, some))
			return n
		})
	}
	if clashes[0] < 200 || clashes[1] < 200 || clashes[2] < 10 {
		t.Errorf("there were too few clashes: %v", clashes)
	}
}

// P9.9: once the time of the way that Ask names is known no more histories are left than it says, and of no other way fewer.
func TestAsked(t *testing.T) {
	d := dice.Dice(16)
	asked := 0
	for range 500 {
		b, _ := anyBook(&d, false)
		all, _ := tour.Histories(b)
		way, left, l := tour.Ask(b)
		if l != api.Fine {
			t.Errorf("%+v: bell %d", b, l)
		}
		promises.Asked(t, show(b), all, len(b.Ways), way, left, func(way int) int {
			most := 0
			for n := b.Ways[way].Time.Low; n <= b.Ways[way].Time.High; n++ {
				o, l := tour.Time(b, way, to(n, n))
				many, _ := tour.Histories(o)
				if l != api.Fine && l != api.Odds {
					t.Errorf("%+v: the time %d of %d has the bell %d", b, n, way, l)
				}
				most = max(most, many)
			}
			return most
		})
		if way >= 0 {
			asked++
		}
	}
	if asked < 60 {
		t.Errorf("only %d books were asked", asked)
	}
}

// ofRounds writes all that is told of some rounds.
func ofRounds(b api.TourBook, rounds [][]int) string {
	var told []any
	for _, round := range rounds {
		told = append(told, ofRound(b, round, 0))
		for at := range round {
			sure, l := tour.Late(b, round, at)
			told = append(told, sure, l)
		}
	}
	return show(told...)
}

// P9.9: a job that is called changes no round without it, nor the times between places.
func TestCalled(t *testing.T) {
	d := dice.Dice(17)
	better := 0
	for i := range 200 {
		b, _ := anyBook(&d, i%4 == 0)
		if len(b.Jobs) == api.MaxTourJobs {
			b.Jobs = b.Jobs[:d.Roll(api.MaxTourJobs)]
		}
		j, _ := anyJob(&d, b)
		o, l := tour.Call(b, j)
		if l != api.Fine {
			t.Fatalf("%+v: %+v: bell %d", b, j, l)
		}
		rounds := roundsOf(b)
		if was, is := ofRounds(b, rounds), ofRounds(o, rounds); is != was {
			t.Errorf("%+v: %s, with a job more: %s", b, was, is)
		}
		before, _ := tour.Histories(b)
		after, _ := tour.Histories(o)
		if after != before*(j.Work.High-j.Work.Low+1) {
			t.Errorf("%+v: %d histories, with a job more %d", b, before, after)
		}
		best, when, l := tour.Best(b)
		more, now, l2 := tour.Best(o)
		never, _ := tour.Never(b)
		also, _ := tour.Never(o)
		if len(more) < len(best) || len(more) == len(best) && now.High > when.High || l != l2 || !slices.Equal(never, slices.DeleteFunc(also, func(job int) bool { return job == len(b.Jobs) })) {
			t.Errorf("%+v: Best %v, %v, Never %v, with a job more: %v, %v, %v, bells %d, %d", b, best, when, never, more, now, also, l, l2)
		}
		if slices.Contains(more, len(b.Jobs)) {
			better++
		}
	}
	if better < 30 {
		t.Errorf("only %d jobs made a round better", better)
	}
}

// inOrder returns a book with its ways, jobs and notes in another order.
func inOrder(b api.TourBook, ways, jobs, notes []int) api.TourBook {
	o := clone(b)
	o.Ways, o.Jobs, o.Notes = oracle.Picked(o.Ways, ways), oracle.Picked(o.Jobs, jobs), oracle.Picked(o.Notes, notes)
	for i, n := range o.Notes {
		o.Notes[i].Ways = moved(n.Ways, ways)
	}
	return o
}

// moved returns where indexes are if they are in another order.
func moved(list, order []int) []int {
	var now []int
	for _, old := range list {
		now = append(now, slices.Index(order, old))
	}
	return now
}

// toldOfAll writes what is told of a book, and not of a way, a job or a note, nor which of several they are.
func toldOfAll(b api.TourBook) string {
	many, l := tour.Histories(b)
	clash, l2 := tour.Clash(b)
	best, home, l3 := tour.Best(b)
	never, l4 := tour.Never(b)
	_, left, l5 := tour.Ask(b)
	told := []any{many, len(clash), len(best), home.High, len(never), left, l, l2, l3, l4, l5}
	for one := range b.Places {
		for two := range b.Places {
			far, l := tour.Far(b, one, two)
			told = append(told, far, l)
		}
	}
	return show(told...)
}

// toldOfRound writes what is told of a round, but for lists of jobs.
func toldOfRound(b api.TourBook, round []int) string {
	load, l := tour.Load(b, round)
	fits, l2 := tour.Fits(b, round)
	ends, l3 := tour.Ends(b, round)
	home, l4 := tour.Home(b, round)
	safe, l5 := tour.Safe(b, round)
	_, swiftest, l6 := tour.Swiftest(b, round)
	told := []any{load, fits, ends, home, safe, swiftest.High, l, l2, l3, l4, l5, l6}
	for at := range round {
		sure, l := tour.Late(b, round, at)
		told = append(told, sure, l)
	}
	return show(told...)
}

// P9.10: the order of ways, jobs and notes changes no more than indexes.
func TestOrder(t *testing.T) {
	d := dice.Dice(18)
	for i := range 250 {
		b, real := anyBook(&d, i%2 == 0)
		ways, jobs, notes := d.Shuffled(len(b.Ways)), d.Shuffled(len(b.Jobs)), d.Shuffled(len(b.Notes))
		o := inOrder(b, ways, jobs, notes)
		same := func(name string, one, other string) {
			t.Helper()
			if one != other {
				t.Errorf("%+v: %s: %s, %+v: %s", b, name, one, o, other)
			}
		}
		same("all", toldOfAll(b), toldOfAll(o))
		for _, round := range roundsOf(b) {
			same("round", toldOfRound(b, round), toldOfRound(o, moved(round, jobs)))
		}
		for now, old := range ways {
			one, l := tour.Time(b, old, b.Ways[old].Time)
			other, l2 := tour.Time(o, now, b.Ways[old].Time)
			same("Time", show(toldOfAll(one), l), show(toldOfAll(other), l2))
		}
		for now, old := range jobs {
			list, l := tour.Works(b, old)
			also, l2 := tour.Works(o, now)
			same("Works", show(list, l), show(also, l2))
		}
		never, _ := tour.Never(b)
		also, _ := tour.Never(o)
		same("Never", show(slices.Sorted(slices.Values(moved(never, jobs)))), show(also))
		if len(b.Notes) < api.MaxTourNotes {
			n := anyNote(&d, b, real)
			one, l := tour.Note(b, n)
			other, l2 := tour.Note(o, api.TourNote{Ways: moved(n.Ways, ways), Took: n.Took})
			same("Note", show(toldOfAll(one), l), show(toldOfAll(other), l2))
			// nor does the order of the ways of a note
			slices.Reverse(n.Ways)
			other, l2 = tour.Note(b, n)
			same("Note the other way round", show(toldOfAll(one), l), show(toldOfAll(other), l2))
		}
		// notes that clash are others, if as many do, but they clash there, too
		list, _ := tour.Clash(o)
		if n, _ := tour.Histories(alone(b, oracle.Picked(notes, list))); len(list) > 0 && n > 0 {
			t.Errorf("%+v: Clash is %v, but in %+v they have %d histories", o, list, b, n)
		}
	}
}
