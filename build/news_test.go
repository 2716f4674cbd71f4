package build_test

import (
	"math"
	"slices"
	"strings"
	"testing"

	"nosale/api"
	"nosale/build"
	"nosale/dice"
	"nosale/promises"
)

// P5.4: Clash returns the fewest trials that contradict each other, and of several such lists the least one.
func TestClash(t *testing.T) {
	const two = "build 9 2\npart a 1 1 1..4 0+1\npart b 1 1 1..4 0+1\n"
	const three = "build 9 3\npart a 1 1 1..4 0+1+2\npart b 1 1 1..4 0+1+2\npart c 1 1 1..4 0+1+2\n"
	for _, x := range []struct {
		text string
		want []int
	}{
		{textB, nil}, {textNew, nil}, {textBare, nil}, {textAll, nil}, {textOdd, []int{1}}, {textClash, []int{0, 1}},
		// one is fewer than two with lesser indexes
		{textClash + "trial 0+0+0 0\n", []int{2}}, {textNew + "trial 0+0+0 1\ntrial 0+0+0 0\n", []int{0}},
		// the least of several pairs
		{two + "trial 0+0 2\ntrial 0+0 4\ntrial 0+0 6\n", []int{0, 1}}, {two + "trial 0+1 2..8\ntrial 0+0 4\ntrial 1+1 6\ntrial 0+0 6\n", []int{1, 3}}, {two + "trial 0+0 2..4\ntrial 1+1 2\ntrial 0+0 4\ntrial 1+1 4\n", []int{1, 3}},
		// three that clash, no two of which do; and four, no three of which do
		{two + "trial 0+0 2\ntrial 1+1 2\ntrial 0+1 3\n", []int{0, 1, 2}}, {two + "trial 0+1 2..8\ntrial 0+0 2..4\ntrial 1+1 2..4\ntrial 1+0 5..8\n", []int{1, 2, 3}}, {three + "trial 0+0+0 3..6\ntrial 1+1+1 3..6\ntrial 2+2+2 3..6\ntrial 2+1+0 7..99\n", []int{0, 1, 2, 3}},
	} {
		if list, l := build.Clash(parse(t, x.text)); !slices.Equal(list, x.want) || l != api.Fine {
			t.Errorf("%q: %v, bell %d, want %v", x.text, list, l, x.want)
		}
	}
}

// P5.4: Ask returns the first part whose time leaves the fewest histories at most.
func TestAsk(t *testing.T) {
	for _, x := range []struct {
		text       string
		part, left int
		l          api.Bell
	}{
		{textB, 0, 2, api.Fine}, {textNew, 2, 2, api.Fine}, {textOne, -1, 1, api.Fine}, {textBare, -1, 1, api.Fine}, {textW, 2, 2, api.Fine}, {textNew + "trial 0+1+2 7\n", 0, 1, api.Fine}, {textB + "trial 0+1+0 8\n", 2, 1, api.Fine},
		// as good: the first one; no part leaves fewer once only one has a time that is open
		{"build 9 1\npart a 1 1 1..2 0\npart b 1 1 1..2 0\n", 0, 2, api.Fine}, {"build 9 1\npart a 1 1 1 0\npart b 1 1 1..2 0\n", 1, 1, api.Fine}, {"build 9 1\npart a 1 1 1 0\npart b 1 1 2 0\n", -1, 1, api.Fine},
		// the worst case counts, not how many times a part can have: a has two, and b has three
		{"build 22 4\npart a 3 2 8..10 1+2+3\npart b 0 0 5..7 0\ntrial 1+0+0+0 33..36\n", 0, 2, api.Fine},
		{textOdd, 0, 0, api.Odds}, {textClash, 0, 0, api.Odds},
	} {
		if part, n, l := build.Ask(parse(t, x.text)); part != x.part || n != x.left || l != x.l {
			t.Errorf("%q: %d, %d, bell %d, want %d, %d", x.text, part, n, l, x.part, x.left)
		}
	}
}

// newsCase is a book of which more is known, and its text then.
type newsCase struct {
	text, want string
	l          api.Bell
}

// is compares the book that a function returned with what is expected; old is the one that was handed in.
func (x newsCase) is(t *testing.T, old, b api.BuildBook, l api.Bell, asked ...any) {
	t.Helper()
	layer().News(t, promises.Case{Text: x.text, Want: x.want, Bell: x.l}, old, b, l, asked...)
}

// P5.4: Try returns the book with one more trial, as the last one.
func TestTry(t *testing.T) {
	four := textB + strings.Repeat("trial 2+1+2 6..8\n", 3)
	for _, x := range []struct {
		newsCase
		tried api.BuildTrial
	}{
		{newsCase{textB, textB + "trial 0+1+0 8\n", api.Fine}, trial(to(8, 8), 0, 1, 0)}, {newsCase{textB, textB + "trial 0+0+0 0..99\n", api.Fine}, trial(to(0, 99), 0, 0, 0)}, {newsCase{textNew, textNew + "trial 2+1+2 4..5\n", api.Fine}, trial(to(4, 5), 2, 1, 2)}, {newsCase{textB, textB + "trial 2+1+2 6..8\n", api.Fine}, trial(to(6, 8), 2, 1, 2)}, {newsCase{textOne, textOne + "trial 0 2\n", api.Fine}, trial(to(2, 2), 0)},
		{newsCase{textB, "", api.Odds}, trial(to(9, 9), 2, 1, 2)}, {newsCase{textB, "", api.Odds}, trial(to(10, 99), 0, 0, 0)}, {newsCase{textB, "", api.Odds}, trial(to(9, 99), 0, 1, 2)}, {newsCase{textOdd, "", api.Odds}, trial(to(0, 99), 0, 0, 0)}, {newsCase{textOne, "", api.Odds}, trial(to(0, 1), 0)},
		{newsCase{textB, "", api.Count}, trial(to(0, 99), 2, 1)}, {newsCase{textB, "", api.Count}, trial(to(0, 99))}, {newsCase{textB, "", api.Missing}, trial(to(-1, 9), 2, 1, 3)}, {newsCase{textB, "", api.Shape}, trial(to(9, 8), 0, 1, 1)}, {newsCase{textB, "", api.Bound}, trial(to(9, 8), 0, 1, 0)}, {newsCase{textB, "", api.Bound}, trial(to(0, 100), 0, 1, 0)}, {newsCase{textB, "", api.Bound}, trial(to(math.MinInt, math.MaxInt), 0, 1, 0)}, {newsCase{textOdd, "", api.Bound}, trial(to(9, 8), 0, 1, 0)}, {newsCase{textBare, "", api.Shape}, trial(to(0, 99), 0)},
		// there are as many as there can be
		{newsCase{four, "", api.Count}, trial(to(6, 8), 2, 1, 2)}, {newsCase{four, "", api.Count}, trial(to(9, 9), 2, 1, 2)}, {newsCase{strings.Replace(four, "6..8\n", "6\n", 1), "", api.Count}, trial(to(9, 9), 2, 1, 2)},
	} {
		old := parse(t, x.text)
		b, l := build.Try(old, x.tried)
		x.is(t, old, b, l, x.tried)
	}
}

// P5.4: Time returns the book in which the time of a part is what it has in common with a span.
func TestTime(t *testing.T) {
	cam := func(time string) string { return strings.Replace(textB, "2..3", time, 1) }
	pawl := func(time string) string { return strings.Replace(textB, "1..4", time, 1) }
	for _, x := range []struct {
		newsCase
		part  int
		ticks api.Span
	}{
		{newsCase{textB, cam("3"), api.Fine}, 0, to(3, 3)}, {newsCase{textB, cam("3"), api.Fine}, 0, to(3, 20)}, {newsCase{textB, cam("2"), api.Fine}, 0, to(0, 2)}, {newsCase{textB, textB, api.Fine}, 0, to(0, 20)}, {newsCase{textB, textB, api.Fine}, 0, to(2, 3)}, {newsCase{textB, textB, api.Fine}, 1, to(1, 2)}, {newsCase{textB, pawl("2..4"), api.Fine}, 2, to(2, 9)}, {newsCase{textB, pawl("1..2"), api.Fine}, 2, to(1, 2)}, {newsCase{textB, pawl("2..3"), api.Fine}, 2, to(2, 3)}, {newsCase{textBare, textBare, api.Fine}, 0, to(0, 0)},
		// nothing in common, or against the trials
		{newsCase{textB, "", api.Odds}, 0, to(4, 5)}, {newsCase{textB, "", api.Odds}, 0, to(0, 1)}, {newsCase{textB, "", api.Odds}, 2, to(1, 1)}, {newsCase{textB, "", api.Odds}, 2, to(4, 20)}, {newsCase{textOdd, "", api.Odds}, 0, to(0, 20)}, {newsCase{textOdd, "", api.Odds}, 0, to(4, 5)},
		{newsCase{textB, "", api.Bound}, 0, to(-1, 5)}, {newsCase{textB, "", api.Bound}, 0, to(4, 21)}, {newsCase{textB, "", api.Bound}, 0, to(3, 2)}, {newsCase{textB, "", api.Bound}, 0, to(math.MinInt, math.MaxInt)}, {newsCase{textB, "", api.Bound}, 0, to(math.MaxInt, math.MinInt)}, {newsCase{textOdd, "", api.Bound}, 0, to(3, 2)},
		{newsCase{textB, "", api.Missing}, 3, to(3, 2)}, {newsCase{textB, "", api.Missing}, -1, to(2, 3)}, {newsCase{textB, "", api.Missing}, math.MaxInt, to(2, 3)}, {newsCase{textOdd, "", api.Missing}, 3, to(2, 3)},
	} {
		old := parse(t, x.text)
		b, l := build.Time(old, x.part, x.ticks)
		x.is(t, old, b, l, x.part, x.ticks)
	}
}

// P5.4: what clashes, is asked, and becomes known is what the oracle finds.
func TestNewsLikeOracle(t *testing.T) {
	d := dice.Dice(4)
	clashes, asked, odd := map[int]int{}, map[int]int{}, 0
	for i := range 500 {
		b, _ := anyBook(&d, i%4 > 0)
		all := pasts(b)
		clash := clashOf(b)
		if list, l := build.Clash(b); !slices.Equal(list, clash) || l != api.Fine {
			t.Errorf("%+v: Clash: %v, bell %d, want %v", b, list, l, clash)
		}
		clashes[len(clash)]++
		if len(all) > 0 {
			part, left := askOf(b, all)
			if p, n, l := build.Ask(b); p != part || n != left || l != api.Fine {
				t.Errorf("%+v: Ask: %d, %d, bell %d, want %d, %d", b, p, n, l, part, left)
			}
			asked[part]++
		}
		same := func(name string, o api.BuildBook, l api.Bell, want api.BuildBook, values ...any) {
			t.Helper()
			bell := api.Fine
			if len(pasts(want)) == 0 {
				want, bell = api.BuildBook{}, api.Odds
				odd++
			}
			if show(o) != show(want) || l != bell {
				t.Errorf("%+v: %s %v: %+v, bell %d, want %+v, %d", b, name, values, o, l, want, bell)
			}
		}
		for part, p := range b.Parts {
			s := d.Around(min(api.MaxBuildTime, p.Time.Low+d.Roll(4)), 3, 0, api.MaxBuildTime)
			want := clone(b)
			want.Parts[part].Time = to(max(s.Low, p.Time.Low), min(s.High, p.Time.High))
			o, l := build.Time(b, part, s)
			same("Time", o, l, want, part, s)
		}
		if machines := machinesOf(b); len(machines) > 0 && len(b.Trials) < api.MaxBuildTrials {
			tried := trial(d.Around(d.Roll(3*b.Beat/2+1), 1+d.Roll(9), 0, api.MaxBuildTook), machines[d.Roll(len(machines))]...)
			want := clone(b)
			want.Trials = append(want.Trials, tried)
			o, l := build.Try(b, tried)
			same("Try", o, l, want, tried)
		}
	}
	if clashes[1] < 20 || clashes[2] < 10 || clashes[3] < 1 || asked[-1] < 20 || asked[0] < 50 || asked[1] < 50 || asked[2] < 20 || odd < 200 {
		t.Errorf("too few of something: clashes %v, asked %v, %d odd", clashes, asked, odd)
	}
}
