package evening_test

import (
	"math"
	"strings"
	"testing"

	"nosale/api"
	"nosale/evening"
	"nosale/promises"
)

// newsCase is a book of which more is known, and its text then, or the bell.
type newsCase struct {
	text, want string
	l          api.Bell
}

// is compares the book that a function returns with what is expected; the one that is handed in stays as it was.
func (x newsCase) is(t *testing.T, tell func(b api.EveningBook) (api.EveningBook, api.Bell), asked ...any) {
	t.Helper()
	old := parse(t, x.text)
	b, l := tell(old)
	layer().News(t, promises.Case{Text: x.text, Want: x.want, Bell: x.l}, old, b, l, asked...)
}

// P7.3: Clash returns the fewest counts that contradict each other, and none if there is a history.
func TestClash(t *testing.T) {
	const three = "evening 0 0 0 10\nhour 5 none\nhour 5 none\nhour 5 none\n"
	for _, x := range []struct {
		text string
		want []int
	}{
		{textE, nil}, {textBare, nil}, {textTwo, nil}, {textAll, nil}, {textHigh, []int{1}}, {textOdd, []int{0, 1}},
		{three + "count 0 15\ncount 1 20\ncount 2 25\n", nil}, {three + "count 0 15\ncount 1 20\ncount 2 26\n", []int{2}}, {three + "count 0 14\ncount 1 21\ncount 2 26\n", []int{0}}, {three + "count 0 14..16\ncount 1 21\n", []int{1}},
		// each is right by itself
		{"evening 0 0 0 10..12\nhour 5 none\nhour 5 none\nhour 5 none\ncount 0 15..17\ncount 1 20\ncount 2 27\n", []int{1, 2}}, {"evening 0 0 0 10..12\nhour 5 none\nhour 5 none\nhour 5 none\ncount 0 15\ncount 1 21\ncount 2 27\n", []int{0, 1}},
		// two takings are enough for any two of them, but not for all
		{"evening 2 4 0 10\nclerk a\nhour 5 0\nhour 5 0\nhour 5 0\ncount 0 13\ncount 1 16\ncount 2 19\n", []int{0, 1, 2}}, {"evening 1 1 0 10\nclerk a\nhour 5..6 0\nhour 5..6 0\ncount 0 16\ncount 1 19\n", []int{0, 1}},
	} {
		if list, l := evening.Clash(parse(t, x.text)); show(list) != show(x.want) || l != api.Fine {
			t.Errorf("%q: %v, bell %d, want %v", x.text, list, l, x.want)
		}
	}
}

// P7.3: Ask returns the duty about which is to be asked, and how many histories are left at most.
func TestAsk(t *testing.T) {
	for _, x := range []struct {
		text              string
		hour, clerk, left int
		l                 api.Bell
	}{
		{textE, 1, 0, 4, api.Fine}, {textTwo, 0, 0, 1, api.Fine}, {textSlip, -1, -1, 1, api.Fine}, {textBare, -1, -1, 1, api.Fine}, {textHigh, 0, 0, 0, api.Odds}, {textOdd, 0, 0, 0, api.Odds},
		// slips, about which nobody is asked
		{"evening 0 0 2 9\nhour 5 none\nwheel 0 1\nwheel 0 -1\ncount 0 14\n", -1, -1, 2, api.Fine},
		// of several the first one, and no one who was not there
		{with("count 0 150\n", ""), 0, 0, 8, api.Fine}, {with("31 0+1", "31 1"), 1, 1, 1, api.Fine}, {with("177", "178"), 1, 0, 4, api.Fine},
		// the last duty
		{"evening 1 3 0 9\nclerk a\nclerk b\nhour 5 0\nhour 5 1\ncount 0 14\n", 1, 1, 1, api.Fine},
	} {
		hour, clerk, left, l := evening.Ask(parse(t, x.text))
		if got := show(hour, clerk, left, l); got != show(x.hour, x.clerk, x.left, x.l) {
			t.Errorf("%q: %s, want %d, %d, %d, %d", x.text, got, x.hour, x.clerk, x.left, x.l)
		}
	}
}

// P7.3: Clear returns the book in which a duty is none.
func TestClear(t *testing.T) {
	two := "evening 1 5 0 9\nclerk a\nclerk b\nclerk c\nhour 5 0+1+2\ncount 0 12\n"
	for _, x := range []struct {
		newsCase
		hour, clerk int
	}{
		{newsCase{textE, with("31 0+1", "31 1"), api.Fine}, 1, 0}, {newsCase{textE, with("31 0+1", "31 0"), api.Fine}, 1, 1}, {newsCase{textE, with("50 0", "50 none"), api.Fine}, 0, 0}, {newsCase{two, strings.Replace(two, "0+1+2", "0+2", 1), api.Fine}, 0, 1},
		{newsCase{textE, "", api.Missing}, 0, 1}, {newsCase{textE, "", api.Missing}, 2, 0}, {newsCase{textE, "", api.Missing}, -1, 0}, {newsCase{textE, "", api.Missing}, 1, 2}, {newsCase{textE, "", api.Missing}, 1, -1}, {newsCase{textE, "", api.Missing}, math.MaxInt, math.MinInt}, {newsCase{textBare, "", api.Missing}, 0, 0}, {newsCase{textHigh, "", api.Missing}, 0, 1},
		// somebody must have taken it
		{newsCase{textTwo, "", api.Odds}, 0, 0}, {newsCase{textTwo, "", api.Odds}, 1, 1}, {newsCase{textHigh, "", api.Odds}, 0, 0}, {newsCase{textSure, "", api.Odds}, 1, 2},
	} {
		x.is(t, func(b api.EveningBook) (api.EveningBook, api.Bell) { return evening.Clear(b, x.hour, x.clerk) }, x.hour, x.clerk)
	}
}

// P7.3: Mend returns the book without a slip.
func TestMend(t *testing.T) {
	for _, x := range []struct {
		newsCase
		slip int
	}{
		{newsCase{textE, with("wheel 1 2\n", ""), api.Fine}, 0}, {newsCase{textSlip, strings.Replace(textSlip, "wheel 0 -5\n", "", 1), api.Fine}, 1}, {newsCase{textSure, strings.Replace(textSure, "wheel 1 -2\n", "", 1), api.Fine}, 1},
		{newsCase{textE, "", api.Missing}, 1}, {newsCase{textE, "", api.Missing}, -1}, {newsCase{textE, "", api.Missing}, math.MaxInt}, {newsCase{textE, "", api.Missing}, math.MinInt}, {newsCase{textBare, "", api.Missing}, 0}, {newsCase{textHigh, "", api.Missing}, 1},
		// it must have happened
		{newsCase{textSlip, "", api.Odds}, 0}, {newsCase{textHigh, "", api.Odds}, 0},
	} {
		x.is(t, func(b api.EveningBook) (api.EveningBook, api.Bell) { return evening.Mend(b, x.slip) }, x.slip)
	}
}

// P7.3: Count returns the book with one more count, at its place.
func TestCount(t *testing.T) {
	first, second, none := with("count 1 177\n", ""), with("count 0 150\n", ""), with("count 0 150\ncount 1 177\n", "")
	middle := strings.Replace(textOdd, "count 1 180\n", "", 1)
	high := strings.Replace(textHigh, "count 0 150\n", "", 1)
	for _, x := range []struct {
		newsCase
		c api.EveningCount
	}{
		{newsCase{first, textE, api.Fine}, count(1, 177, 177)}, {newsCase{second, textE, api.Fine}, count(0, 150, 150)}, {newsCase{none, first, api.Fine}, count(0, 150, 150)}, {newsCase{none, second, api.Fine}, count(1, 177, 177)}, {newsCase{none, none + "count 1 0..9999\n", api.Fine}, count(1, 0, 9999)}, {newsCase{textBare, textBare + "count 0 8\n", api.Fine}, count(0, 8, 8)}, {newsCase{middle, "", api.Odds}, count(1, 180, 180)}, {newsCase{strings.Replace(middle, "count 2 180", "count 2 190", 1), strings.Replace(textOdd, "180\ncount 2 180", "190\ncount 2 190", 1), api.Fine}, count(1, 190, 190)},
		// there is one
		{newsCase{first, "", api.Twice}, count(0, 150, 150)}, {newsCase{first, "", api.Twice}, count(0, -1, 150)}, {newsCase{first, "", api.Twice}, count(0, 151, 150)}, {newsCase{textE, "", api.Twice}, count(1, 177, 177)}, {newsCase{textE, "", api.Twice}, count(0, 0, 10000)}, {newsCase{textHigh, "", api.Twice}, count(0, 150, 150)},
		// there is no such hour, whether there are counts behind all or not
		{newsCase{first, "", api.Missing}, count(2, 1, 1)}, {newsCase{first, "", api.Missing}, count(-1, 1, 1)}, {newsCase{first, "", api.Missing}, count(2, 2, 1)}, {newsCase{first, "", api.Missing}, count(math.MaxInt, 1, 1)}, {newsCase{first, "", api.Missing}, count(math.MinInt, 1, 1)}, {newsCase{textE, "", api.Missing}, count(2, 1, 1)}, {newsCase{textE, "", api.Missing}, count(-1, 2, 1)},
		// its bell
		{newsCase{first, "", api.Bound}, count(1, -1, 150)}, {newsCase{first, "", api.Bound}, count(1, 0, 10000)}, {newsCase{first, "", api.Bound}, count(1, 151, 150)}, {newsCase{first, "", api.Bound}, count(1, math.MinInt, math.MaxInt)}, {newsCase{high, "", api.Bound}, count(0, 1, 0)},
		{newsCase{first, "", api.Odds}, count(1, 190, 190)}, {newsCase{none, "", api.Odds}, count(0, 151, 160)}, {newsCase{high, "", api.Odds}, count(0, 150, 150)},
	} {
		x.is(t, func(b api.EveningBook) (api.EveningBook, api.Bell) { return evening.Count(b, x.c) }, x.c)
	}
}
