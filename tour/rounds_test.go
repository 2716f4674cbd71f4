package tour_test

import (
	"slices"
	"strings"
	"testing"

	"nosale/api"
	"nosale/dice"
	"nosale/oracle"
	"nosale/tour"
)

// P9.2: when the jobs of a round can end, whether they are late, when the traveller can be home, and whether the round is safe.
func TestRounds(t *testing.T) {
	yes, no, open := api.Yes, api.No, api.Open
	for _, x := range []struct {
		text  string
		round []int
		ends  []api.Span
		home  api.Span
		late  []api.Sure
		safe  bool
	}{
		{textT, []int{0, 1}, []api.Span{to(3, 4), to(8, 10)}, to(13, 15), []api.Sure{no, no}, true}, {textT, []int{1, 0}, []api.Span{to(6, 7), to(11, 12)}, to(13, 15), []api.Sure{no, yes}, false}, {textT, []int{0, 2}, []api.Span{to(3, 4), to(6, 8)}, to(6, 8), []api.Sure{no, no}, true}, {textT, []int{2}, []api.Span{to(1, 1)}, to(1, 1), []api.Sure{no}, true}, {textT, nil, nil, to(0, 0), nil, true}, {textBare, nil, nil, to(0, 0), nil, true},
		// too heavy, and not late
		{textT, []int{2, 0, 1}, []api.Span{to(1, 1), to(4, 5), to(9, 11)}, to(14, 16), []api.Sure{no, no, no}, false}, {with("tour 3", "tour 4"), []int{2, 0, 1}, []api.Span{to(1, 1), to(4, 5), to(9, 11)}, to(14, 16), []api.Sure{no, no, no}, true},
		// due is due: at the moment itself a job is not late
		{with("1 1 5 2", "1 1 4 2"), []int{0}, []api.Span{to(3, 4)}, to(5, 7), []api.Sure{no}, true}, {with("1 1 5 2", "1 1 3 2"), []int{0}, []api.Span{to(3, 4)}, to(5, 7), []api.Sure{open}, false}, {with("1 1 5 2", "1 1 2 2"), []int{0}, []api.Span{to(3, 4)}, to(5, 7), []api.Sure{yes}, false}, {with("0 1 20 1", "0 0 0 1"), []int{2}, []api.Span{to(0, 0)}, to(0, 0), []api.Sure{no}, true}, {with("0 1 20 1", "0 1 0 1"), []int{2}, []api.Span{to(1, 1)}, to(1, 1), []api.Sure{yes}, false},
		// the first one is late, and the last one is not
		{with("1 1 5 2", "1 1 3 2"), []int{0, 1}, []api.Span{to(3, 4), to(8, 10)}, to(13, 15), []api.Sure{open, no}, false},
		// over another place
		{textOver, []int{1}, []api.Span{to(7, 9)}, to(13, 16), []api.Sure{no}, true}, {textTie, []int{2, 1, 0}, []api.Span{to(3, 4), to(5, 7), to(5, 8)}, to(9, 13), []api.Sure{no, no, no}, true}, {textTie, []int{0, 2}, []api.Span{to(4, 6), to(7, 9)}, to(9, 12), []api.Sure{no, yes}, false}, {textAll, []int{3, 0}, []api.Span{to(59, 60), to(117, 120)}, to(175, 180), []api.Sure{open, no}, false},
		// the way there and the way back have the same time in each history, and a note tells of both
		{textT + "note 0+0 4..5\n", []int{0}, []api.Span{to(3, 3)}, to(5, 5), []api.Sure{no}, true}, {"tour 0 0\nplace a\nplace b\nway 0 1 1..2\njob 1 0..1 2 none\n", []int{0}, []api.Span{to(1, 3)}, to(2, 5), []api.Sure{open}, false},
	} {
		b := parse(t, x.text)
		ends, l := tour.Ends(b, x.round)
		home, l2 := tour.Home(b, x.round)
		safe, l3 := tour.Safe(b, x.round)
		if got, want := show(ends, home, safe, l, l2, l3), show(x.ends, x.home, x.safe, 0, 0, 0); got != want {
			t.Errorf("%q, %v: %s, want %s", x.text, x.round, got, want)
		}
		for at, want := range x.late {
			if sure, l := tour.Late(b, x.round, at); sure != want || l != api.Fine {
				t.Errorf("%q, %v: Late %d: %d, bell %d, want %d", x.text, x.round, at, sure, l, want)
			}
		}
	}
}

// P9.2: the best safe round, and the jobs that are in none.
func TestBest(t *testing.T) {
	const near = "tour 9 1\nplace works\nplace ayr\nplace bute\nway 0 1 3\nway 0 2 2\njob 1 0 9 1\njob 2 0 9 1\n"
	for _, x := range []struct {
		text  string
		best  []int
		home  api.Span
		never []int
	}{
		{textT, []int{0, 2}, to(6, 8), nil}, {with("tour 3", "tour 4"), []int{0, 1, 2}, to(14, 16), nil}, {with("tour 3", "tour 2"), []int{1, 2}, to(12, 13), nil}, {with("tour 3", "tour 1"), []int{2}, to(1, 1), []int{0}}, {with("tour 3", "tour 0"), nil, to(0, 0), []int{0, 1, 2}}, {with("1 1 5 2", "1 1 3 2"), []int{1, 2}, to(12, 13), []int{0}}, {textBare, nil, to(0, 0), nil}, {textTwo[:len(textTwo)-len("note 0+0 6\n")], nil, to(0, 0), nil}, {textOver, []int{0, 2}, to(6, 8), nil}, {textTie, []int{2, 0, 1}, to(9, 13), nil}, {textLine, []int{0}, to(62, 64), []int{1}}, {textAll, []int{0, 1, 2}, to(174, 181), []int{3}},
		// the most jobs come before the shortest round, then comes that, then the least list
		{near, []int{0, 1}, to(10, 10), nil}, {strings.Replace(near, "1 0 9", "1 0 6", 1), []int{0, 1}, to(10, 10), nil}, {strings.Replace(near, "1 0 9 1\njob 2 0 9", "1 0 7 1\njob 2 0 2", 1), []int{1, 0}, to(10, 10), nil}, {strings.Replace(near, "tour 9", "tour 1", 1), []int{1}, to(4, 4), nil}, {strings.Replace(strings.Replace(near, "tour 9", "tour 1", 1), "2 0 9", "2 0 1", 1), []int{0}, to(6, 6), []int{1}},
		// home at the latest, not at the earliest
		{"tour 1 1\nplace works\nplace ayr\nplace bute\nway 0 1 3..4\nway 0 2 4\njob 1 0..1 9 1\njob 2 0 9 1\n", []int{1}, to(8, 8), nil},
	} {
		b := parse(t, x.text)
		best, home, l := tour.Best(b)
		never, l2 := tour.Never(b)
		if got, want := show(best, home, never, l, l2), show(x.best, x.home, x.never, 0, 0); got != want {
			t.Errorf("%q: %s, want %s", x.text, got, want)
		}
	}
}

// P9.2: the order of jobs from which the traveller is home earliest at the latest, whenever they are due and whatever the bag holds.
func TestSwiftest(t *testing.T) {
	for _, x := range []struct {
		text       string
		jobs, want []int
		home       api.Span
	}{
		{textT, []int{0, 1}, []int{0, 1}, to(13, 15)}, {textT, []int{1, 0}, []int{0, 1}, to(13, 15)}, {textT, []int{2, 1, 0}, []int{0, 1, 2}, to(14, 16)}, {textT, []int{1}, []int{1}, to(11, 12)}, {textT, nil, nil, to(0, 0)}, {textBare, nil, nil, to(0, 0)}, {with("tour 3", "tour 0"), []int{1, 0, 2}, []int{0, 1, 2}, to(14, 16)}, {with("1 1 5 2", "1 1 0 2"), []int{1, 0}, []int{0, 1}, to(13, 15)},
		// not the least list
		{"tour 0 0\nplace works\nplace ayr\nplace bute\nway 0 1 1\nway 1 2 1\njob 2 0 0 none\njob 1 0 0 none\njob 2 0 0 none\n", []int{0, 1, 2}, []int{0, 2, 1}, to(4, 4)}, {"tour 0 0\nplace works\nplace ayr\nplace bute\nway 0 1 1\nway 0 2 1\njob 1 0 0 none\njob 2 0 0 none\njob 1 0 0 none\n", []int{2, 1, 0}, []int{0, 2, 1}, to(4, 4)}, {textAll, []int{3, 2, 1, 0}, []int{1, 0, 3, 2}, to(205, 211)}, {textAll, []int{3, 0, 1}, []int{1, 0, 3}, to(205, 210)},
	} {
		round, home, l := tour.Swiftest(parse(t, x.text), x.jobs)
		if !slices.Equal(round, x.want) || home != x.home || l != api.Fine {
			t.Errorf("%q: Swiftest %v: %v, %v, bell %d, want %v, %v", x.text, x.jobs, round, home, l, x.want, x.home)
		}
	}
}

// P9.2: what is told of rounds of any book is what all that can be so tells.
func TestRoundsLikeAllThatCanBe(t *testing.T) {
	d := dice.Dice(2)
	seen := map[string]int{}
	for i := range 500 {
		b, _ := anyBook(&d, i%4 == 0)
		all := pasts(b)
		if len(all) == 0 {
			continue
		}
		is := func(name string, got, want string) {
			t.Helper()
			if got != want {
				t.Errorf("%+v: %s: %s, want %s", b, name, got, want)
			}
		}
		for _, round := range roundsOf(b) {
			var want []api.Span
			for at := range round {
				want = append(want, oracle.Span(all, func(p past) int { return endOf(b, p, round, at) }))
				late := oracle.Sure(all, func(p past) bool { return isLateIn(b, p, round, at) })
				sure, l := tour.Late(b, round, at)
				is("Late", show(round, at, sure, l), show(round, at, late, 0))
				seen["late "+show(sure)]++
			}
			ends, l := tour.Ends(b, round)
			is("Ends", show(round, ends, l), show(round, want, 0))
			home, l := tour.Home(b, round)
			is("Home", show(round, home, l), show(round, oracle.Span(all, func(p past) int { return homeOf(b, p, round) }), 0))
			safe, l := tour.Safe(b, round)
			is("Safe", show(round, safe, l), show(round, isSafeIn(b, all, round), 0))
			seen["safe "+show(safe)]++
		}
		for _, some := range oracle.Subsets(len(b.Jobs)) {
			jobs := oracle.Picked(some, d.Shuffled(len(some)))
			round, home, l := tour.Swiftest(b, jobs)
			want, span := firstOf(b, all, ordersOf(some))
			is("Swiftest", show(jobs, round, home, l), show(jobs, want, span, 0))
			if !slices.IsSorted(round) {
				seen["swiftest"]++
			}
		}
		round, home, l := tour.Best(b)
		want, span := bestOf(b, all)
		is("Best", show(round, home, l), show(want, span, 0))
		seen["best "+show(len(round))]++
		never, l := tour.Never(b)
		is("Never", show(never, l), show(neverOf(b, all), 0))
		seen["never "+show(len(never))]++
	}
	for _, name := range []string{show(api.Open), show(api.Yes), show(api.No)} {
		if seen["late "+name] < 100 {
			t.Errorf("too few jobs are late, or not, or perhaps: %v", seen)
		}
	}
	for name, least := range map[string]int{"safe [true]": 500, "safe [false]": 500, "swiftest": 30, "best [0]": 50, "best [1]": 50, "best [2]": 50, "best [3]": 30, "best [4]": 3, "never [0]": 50, "never [1]": 50, "never [2]": 20} {
		if seen[name] < least {
			t.Errorf("too few books: %s: %d", name, seen[name])
		}
	}
}
