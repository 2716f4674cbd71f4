package evening_test

import (
	"math"
	"slices"
	"strings"
	"testing"

	"nosale/api"
	"nosale/dice"
	"nosale/evening"
	"nosale/oracle"
)

// P7.1: Gap tells by how much a count is short, if nothing slipped and nothing was taken, whatever is known besides.
func TestGap(t *testing.T) {
	for _, x := range []struct {
		text string
		want []api.Span
	}{
		{textE, []api.Span{to(0, 0), to(3, 4)}}, {textBare, nil}, {textTwo, []api.Span{to(3, 3)}}, {textSlip, []api.Span{to(5, 5)}}, {textHigh, []api.Span{to(0, 0), to(-10, -9)}},
		// there is a gap if there is no history, too; it does not ask what agrees with other counts
		{textOdd, []api.Span{to(-10, 0), to(10, 10), to(0, 0)}}, {textSure, []api.Span{to(-1, 1), to(3, 6), to(0, 0)}},
		// hours without a count belong to the next one
		{with("count 0 150\n", ""), []api.Span{to(3, 4)}}, {with("count 0 150\ncount 1 177\n", "count 0 0..9999\n"), []api.Span{to(-9849, 150)}},
		{textAll, []api.Span{to(-9999, 9999), to(0, 19998), to(-9999, 5999), to(-5992, 17)}},
		// behind the last count nothing is short
		{with("count 1 177\n", ""), []api.Span{to(0, 0)}},
	} {
		b := parse(t, x.text)
		for i, want := range x.want {
			if s, l := evening.Gap(b, i); s != want || l != api.Fine {
				t.Errorf("%q: Gap %d is %v, bell %d, want %v", x.text, i, s, l, want)
			}
		}
		for _, i := range []int{math.MinInt, -1, len(x.want), math.MaxInt} {
			if s, l := evening.Gap(b, i); s != (api.Span{}) || l != api.Missing {
				t.Errorf("%q: Gap %d is %v, bell %d", x.text, i, s, l)
			}
		}
	}
}

// P7.1: how many histories there are, and whether one of them is without takings.
func TestHistories(t *testing.T) {
	const drop = "evening 1 1 0 5\nclerk a\nhour 5 0\nhour 5 none\ncount 1 14\n"
	for _, x := range []struct {
		text      string
		many      int
		explained bool
	}{
		{textE, 8, false}, {with("177", "178"), 7, true}, {with("177", "177..178"), 11, true}, {textBare, 1, true}, {textTwo, 2, false}, {textSlip, 1, true}, {textOdd, 0, false}, {textHigh, 0, false},
		// the numbers do not matter
		{with("100", "99..101"), 8, false}, {with("count 0 150\n", ""), 12, false}, {with("count 0 150\ncount 1 177\n", ""), 32, true},
		// the limits of takings, of their money and of slips
		{with("evening 1 5 1", "evening 0 5 1"), 0, false}, {with("evening 1 5 1", "evening 1 0 1"), 0, false}, {with("evening 1 5 1", "evening 1 3 1"), 6, false}, {with("evening 1 5 1", "evening 1 5 0"), 4, false}, {with("evening 1 5 1", "evening 2 5 1"), 14, false}, {with("evening 1 5 1", "evening 1 5 2"), 8, false},
		// two slips of the same hour and error are two
		{with("wheel 1 2\n", "wheel 1 2\nwheel 1 2\n"), 12, false}, {strings.Replace(with("wheel 1 2\n", "wheel 1 2\nwheel 1 2\n"), "evening 1 5 1", "evening 1 5 2", 1), 13, true},
		// what slipped in an hour does not count before it
		{with("wheel 1 2", "wheel 0 2"), 4, false},
		// what is taken in an hour without a count is still gone later
		{drop, 1, false}, {strings.Replace(drop, "count 1 14", "count 0 9\ncount 1 14", 1), 1, false}, {strings.Replace(drop, "count 1 14", "count 0 10\ncount 1 14", 1), 0, false}, {strings.Replace(drop, "count 1 14", "count 1 15", 1), 1, true},
		// a count that is wrong stays wrong, whatever is counted later
		{"evening 0 0 0 0\nhour 5 none\nhour 5 none\ncount 0 9\ncount 1 5\n", 0, false},
		// money below 0 is no matter where nothing is counted
		{"evening 2 5 1 0\nclerk a\nhour 0 0\nhour 9 0\nwheel 0 5\n", 72, true}, {"evening 2 5 1 0\nclerk a\nhour 0 0\nhour 9 0\nwheel 0 5\ncount 0 0..9999\n", 6, true},
	} {
		b := parse(t, x.text)
		if n, l := evening.Histories(b); n != x.many || l != api.Fine {
			t.Errorf("%q: %d histories, bell %d, want %d", x.text, n, l, x.many)
		}
		want := api.Fine
		if x.many == 0 {
			want = api.Odds
		}
		if is, l := evening.Explained(b); is != x.explained || l != want {
			t.Errorf("%q: explained: %v, bell %d", x.text, is, l)
		}
	}
}

// P7.1: Agrees tells whether takings and slips are a history, and the bells that they have.
func TestAgrees(t *testing.T) {
	a, b := taking(1, 0, 1), taking(1, 1, 2)
	for _, x := range []struct {
		text    string
		takings []api.EveningTaking
		slips   []int
		want    bool
		l       api.Bell
	}{
		{textE, takings(taking(1, 1, 3)), nil, true, api.Fine}, {textE, takings(taking(1, 1, 4)), nil, true, api.Fine}, {textE, takings(taking(1, 1, 5)), nil, false, api.Fine}, {textE, takings(taking(1, 1, 2)), nil, false, api.Fine}, {textE, takings(taking(1, 0, 1)), []int{0}, true, api.Fine}, {textE, takings(taking(1, 0, 3)), []int{0}, false, api.Fine}, {textE, nil, []int{0}, false, api.Fine}, {textE, nil, nil, false, api.Fine}, {textE, takings(taking(0, 0, 3)), nil, false, api.Fine}, {textE, takings(a, b), nil, false, api.Fine},
		{with("177", "178"), nil, []int{0}, true, api.Fine}, {with("evening 1", "evening 2"), takings(a, b), nil, true, api.Fine}, {textTwo, takings(taking(0, 0, 2), taking(1, 1, 1)), nil, true, api.Fine}, {textTwo, takings(taking(0, 0, 2), taking(1, 1, 2)), nil, false, api.Fine}, {textSlip, nil, []int{0}, true, api.Fine}, {textSlip, nil, []int{1}, false, api.Fine}, {textSlip, nil, []int{0, 1}, false, api.Fine}, {textBare, nil, nil, true, api.Fine}, {textOdd, nil, nil, false, api.Fine},
		// amounts that no taking has
		{textE, takings(taking(1, 0, 0)), nil, false, api.Fine}, {with("177", "178"), takings(taking(1, 0, 0)), []int{0}, false, api.Fine}, {textE, takings(taking(1, 0, 6)), nil, false, api.Fine}, {textE, takings(taking(1, 0, -3)), nil, false, api.Fine}, {textE, takings(taking(1, 0, math.MaxInt)), nil, false, api.Fine}, {textE, takings(taking(1, 0, math.MinInt)), nil, false, api.Fine}, {with("1 5 1", "1 2 1"), takings(taking(1, 0, 3)), nil, false, api.Fine},
		// no duty
		{textE, takings(taking(0, 1, 1)), nil, false, api.Missing}, {textE, takings(taking(2, 0, 1)), nil, false, api.Missing}, {textE, takings(taking(-1, 0, 1)), nil, false, api.Missing}, {textE, takings(taking(1, 2, 1)), nil, false, api.Missing}, {textE, takings(taking(math.MaxInt, math.MinInt, 1)), nil, false, api.Missing}, {textBare, takings(taking(0, 0, 1)), nil, false, api.Missing}, {textE, takings(a, taking(0, 1, 0)), nil, false, api.Missing},
		// no order
		{textE, takings(b, a), nil, false, api.Order}, {textE, takings(a, a), nil, false, api.Order}, {textE, takings(a, taking(1, 0, 2)), nil, false, api.Order}, {textE, takings(a, taking(0, 0, 2)), nil, false, api.Order},
		// taking by taking
		{textE, takings(b, a, taking(0, 1, 1)), nil, false, api.Order}, {textE, takings(taking(0, 1, 1), b, a), nil, false, api.Missing}, {textE, takings(b, taking(0, 1, 1), a), nil, false, api.Missing},
		// slips
		{textE, nil, []int{1}, false, api.Missing}, {textE, nil, []int{-1}, false, api.Missing}, {textE, nil, []int{math.MaxInt}, false, api.Missing}, {textBare, nil, []int{0}, false, api.Missing}, {textE, nil, []int{0, 0}, false, api.Order}, {textSlip, nil, []int{1, 0}, false, api.Order}, {textSlip, nil, []int{1, 2, 0}, false, api.Missing}, {textSlip, nil, []int{1, 0, 2}, false, api.Order},
		// takings come before slips
		{textE, takings(b, a), []int{1}, false, api.Order}, {textE, takings(taking(0, 1, 1)), []int{0, 0}, false, api.Missing}, {textE, takings(taking(1, 0, 9)), []int{1}, false, api.Missing},
		{textE, make([]api.EveningTaking, 1000000), nil, false, api.Order}, {textE, nil, make([]int, 1000000), false, api.Order},
	} {
		if is, l := evening.Agrees(parse(t, x.text), x.takings, x.slips); is != x.want || l != x.l {
			t.Errorf("%q, %.60v, %.60v: %v, bell %d, want %v, %d", x.text, x.takings, x.slips, is, l, x.want, x.l)
		}
	}
}

// P7.1, P7.2, P7.3: what is told of any book is what all that can have happened tells.
func TestLikeAllThatCanHaveHappened(t *testing.T) {
	d := dice.Dice(1)
	none, clashes := 0, 0
	for i := range 1200 {
		b, _ := anyBook(&d, i%2 == 0)
		all := pasts(b)
		if n, l := evening.Histories(b); n != len(all) || l != api.Fine {
			t.Errorf("%+v: %d histories, bell %d, want %d", b, n, l, len(all))
		}
		if list, l := evening.Clash(b); show(list) != show(clashOf(b)) || l != api.Fine {
			t.Errorf("%+v: Clash: %v, bell %d, want %v", b, list, l, clashOf(b))
		} else if len(list) > 1 {
			clashes++
		}
		if len(all) == 0 {
			none++
			continue
		}
		if is, l := evening.Explained(b); is != (handsOf(b, all) == nil) || l != api.Fine {
			t.Errorf("%+v: explained: %v, bell %d", b, is, l)
		}
		likeThings(t, b, all)
		hour, clerk, left, l := evening.Ask(b)
		if hour2, clerk2, left2 := askOf(b, all); show(hour, clerk, left, l) != show(hour2, clerk2, left2, api.Fine) {
			t.Errorf("%+v: Ask: %d, %d, %d, bell %d, want %d, %d, %d", b, hour, clerk, left, l, hour2, clerk2, left2)
		}
	}
	if none < 50 || clashes < 20 {
		t.Errorf("only %d books had no history, %d more than one count that clashes", none, clashes)
	}
}

// likeThings compares what is told of clerks, hours, slips and takings.
func likeThings(t *testing.T, b api.EveningBook, all []past) {
	t.Helper()
	for i := range b.Clerks {
		sure, l := evening.Took(b, i)
		sums, l2 := evening.Sums(b, i)
		if want := oracle.Sure(all, func(p past) bool { return p.ofClerk(i) > 0 }); sure != want || l != api.Fine {
			t.Errorf("%+v: Took %d is %d, bell %d, want %d", b, i, sure, l, want)
		}
		if want := oracle.Span(all, func(p past) int { return p.ofClerk(i) }); sums != want || l2 != api.Fine {
			t.Errorf("%+v: Sums %d is %v, bell %d, want %v", b, i, sums, l2, want)
		}
	}
	for i := range b.Hours {
		if sure, l := evening.Hour(b, i); sure != oracle.Sure(all, func(p past) bool { return p.ofHour(i) > 0 }) || l != api.Fine {
			t.Errorf("%+v: Hour %d is %d, bell %d", b, i, sure, l)
		}
	}
	for i := range b.Wheels {
		is := func(p past) bool { return slices.Contains(p.slips, i) }
		if sure, l := evening.Slipped(b, i); sure != oracle.Sure(all, is) || l != api.Fine {
			t.Errorf("%+v: Slipped %d is %d, bell %d", b, i, sure, l)
		}
	}
	if s, l := evening.Loss(b); s != oracle.Span(all, past.loss) || l != api.Fine {
		t.Errorf("%+v: Loss is %v, bell %d", b, s, l)
	}
	if list, l := evening.Fewest(b); show(list) != show(fewestOf(all)) || l != api.Fine {
		t.Errorf("%+v: Fewest is %v, bell %d, want %v", b, list, l, fewestOf(all))
	}
	if list, l := evening.Hands(b); show(list) != show(handsOf(b, all)) || l != api.Fine {
		t.Errorf("%+v: Hands is %v, bell %d, want %v", b, list, l, handsOf(b, all))
	}
}

// P7.1: what Agrees tells of all that can have happened, and of what cannot, is so.
func TestAgreesLike(t *testing.T) {
	d := dice.Dice(2)
	for i := range 60 {
		b, _ := anyBook(&d, i%2 == 0)
		more := clone(b)
		more.Most, more.Take, more.Slips = api.MaxEveningMost, api.MaxEveningTake, api.MaxEveningSlips
		all := plays(more)
		for range 200 {
			p := all[d.Roll(len(all))]
			much := slices.ContainsFunc(p.takings, func(t api.EveningTaking) bool { return t.Amount > b.Take })
			want := agrees(b, p) && len(p.takings) <= b.Most && len(p.slips) <= b.Slips && !much
			if is, l := evening.Agrees(b, p.takings, p.slips); is != want || l != api.Fine {
				t.Errorf("%+v, %v: %v, bell %d", b, p, is, l)
			}
		}
	}
}
