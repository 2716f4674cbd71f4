package tour_test

import (
	"math"
	"slices"
	"strings"
	"testing"

	"nosale/api"
	"nosale/dice"
	"nosale/oracle"
	"nosale/tour"
)

// P9.1: how many histories there are.
func TestHistories(t *testing.T) {
	for text, want := range map[string]int{
		textT: 4, textBare: 1, textOver: 4, textOdd: 0, textTwo: 0, textLine: 6, textTie: 16,
		textT + "note none 0\n": 4, textT + "note none 0..200\n": 4, textT + "note none 1..200\n": 0, textT + "note 0+1 6\n": 2, textT + "note 0+0 5\n": 0, textT + "note 0+0 6..7\n": 2, textT + "note 1+2 0..200\n": 4, textT + "note 0 3\nnote 2+0 8\n": 2, textT + "note 0 3\nnote 2+0 7\n": 0,
		"tour 0 0\nplace a\njob 0 0..1 0 none\njob 0 0..1 0 none\njob 0 0..1 0 none\njob 0 0..1 0 none\n": 16, "tour 0 0\nplace a\nplace b\nway 0 1 0..1\n": 2,
	} {
		if n, l := tour.Histories(parse(t, text)); n != want || l != api.Fine {
			t.Errorf("%q: %d histories, bell %d, want %d", text, n, l, want)
		}
	}
}

// P9.1: the time between two places is that of the shortest path, whatever times the ways have.
func TestFar(t *testing.T) {
	for _, x := range []struct {
		text     string
		one, two int
		want     api.Span
		l        api.Bell
	}{
		{textT, 0, 1, to(2, 3), api.Fine}, {textT, 1, 0, to(2, 3), api.Fine}, {textT, 0, 2, to(5, 5), api.Fine}, {textT, 2, 1, to(4, 4), api.Fine}, {textT, 0, 0, to(0, 0), api.Fine}, {textT, 2, 2, to(0, 0), api.Fine}, {textBare, 0, 0, to(0, 0), api.Fine},
		// over another place it is shorter
		{textOver, 0, 2, to(6, 7), api.Fine}, {textOver, 2, 0, to(6, 7), api.Fine}, {textOver, 0, 1, to(2, 3), api.Fine}, {textTie, 0, 2, to(4, 5), api.Fine}, {textTie, 1, 2, to(2, 2), api.Fine}, {textLine, 0, 3, to(31, 32), api.Fine}, {textLine, 3, 0, to(31, 32), api.Fine}, {textLine, 1, 3, to(31, 32), api.Fine}, {textLine, 0, 1, to(0, 1), api.Fine}, {textAll, 0, 2, to(58, 60), api.Fine},
		// two ways that are short together are not short in the same history
		{"tour 0 0\nplace a\nplace b\nplace c\nway 0 1 1..2\nway 1 2 1..2\nnote 0+1 3\n", 0, 2, to(3, 3), api.Fine}, {"tour 0 0\nplace a\nplace b\nplace c\nway 0 1 4..5\nway 0 2 1..2\nway 1 2 2..3\n", 0, 1, to(3, 5), api.Fine}, {"tour 0 0\nplace a\nplace b\nplace c\nplace d\nway 0 1 1\nway 1 2 1\nway 2 3 1\nway 0 3 4..5\n", 0, 3, to(3, 3), api.Fine}, {"tour 0 0\nplace a\nplace b\nway 0 1 0\n", 1, 0, to(0, 0), api.Fine},
		{textT, 3, 0, to(0, 0), api.Missing}, {textT, 0, 3, to(0, 0), api.Missing}, {textT, -1, 0, to(0, 0), api.Missing}, {textT, 0, math.MinInt, to(0, 0), api.Missing}, {textT, math.MaxInt, math.MaxInt, to(0, 0), api.Missing}, {textBare, 0, 1, to(0, 0), api.Missing}, {textOdd, 0, 1, to(0, 0), api.Odds}, {textOdd, 1, 1, to(0, 0), api.Odds}, {textOdd, 0, 3, to(0, 0), api.Missing},
	} {
		if s, l := tour.Far(parse(t, x.text), x.one, x.two); s != x.want || l != x.l {
			t.Errorf("%q: Far %d, %d: %v, bell %d, want %v, %d", x.text, x.one, x.two, s, l, x.want, x.l)
		}
	}
}

// P9.1: the times that the work of a job can take.
func TestWorks(t *testing.T) {
	for _, x := range []struct {
		text string
		job  int
		want []int
		l    api.Bell
	}{
		{textT, 0, []int{1}, api.Fine}, {textT, 1, []int{1, 2}, api.Fine}, {textT, 2, []int{1}, api.Fine}, {textLine, 1, []int{29, 30}, api.Fine}, {textTie, 0, []int{0, 1}, api.Fine}, {textAll, 3, []int{30}, api.Fine}, {textT + "note 0+1 6\n", 1, []int{1, 2}, api.Fine},
		{textT, 3, nil, api.Missing}, {textT, -1, nil, api.Missing}, {textT, math.MaxInt, nil, api.Missing}, {textT, math.MinInt, nil, api.Missing}, {textBare, 0, nil, api.Missing}, {textOdd, 1, nil, api.Odds}, {textOdd, 3, nil, api.Missing},
	} {
		if list, l := tour.Works(parse(t, x.text), x.job); !slices.Equal(list, x.want) || l != x.l {
			t.Errorf("%q: Works %d: %v, bell %d, want %v, %d", x.text, x.job, list, l, x.want, x.l)
		}
	}
}

// P9.1: how many parts of each kind a round takes, and whether the bag holds all of them.
func TestLoad(t *testing.T) {
	const three = "tour 9 3\nplace a\njob 0 0 0 1+2+3\njob 0 0 0 0+0+3\njob 0 0 0 0+1+0\njob 0 0 0 0+0+0\n"
	for _, x := range []struct {
		text  string
		round []int
		load  []int
		fits  bool
		l     api.Bell
	}{
		{textT, []int{0}, []int{2}, true, api.Fine}, {textT, []int{0, 1}, []int{3}, true, api.Fine}, {textT, []int{2, 1, 0}, []int{4}, false, api.Fine}, {textT, nil, []int{0}, true, api.Fine}, {textBare, nil, nil, true, api.Fine}, {textTie, []int{2, 0}, nil, true, api.Fine}, {textOdd, []int{0, 2}, []int{3}, true, api.Fine},
		// all kinds together are held
		{three, []int{0}, []int{1, 2, 3}, true, api.Fine}, {three, []int{1, 0}, []int{1, 2, 6}, true, api.Fine}, {three, []int{0, 1, 2}, []int{1, 3, 6}, false, api.Fine}, {three, []int{3, 2}, []int{0, 1, 0}, true, api.Fine}, {three, nil, []int{0, 0, 0}, true, api.Fine}, {strings.Replace(three, "tour 9", "tour 0", 1), []int{3}, []int{0, 0, 0}, true, api.Fine}, {strings.Replace(three, "tour 9", "tour 0", 1), []int{2}, []int{0, 1, 0}, false, api.Fine}, {textAll, []int{3}, []int{5, 5, 5}, false, api.Fine}, {textAll, []int{0, 1, 2, 3}, []int{10, 6, 8}, false, api.Fine},
		{textT, []int{3}, nil, false, api.Missing}, {textT, []int{0, 0}, nil, false, api.Twice}, {textT, []int{0, 0, 3}, nil, false, api.Twice}, {textT, []int{0, 3, 0}, nil, false, api.Missing}, {textT, []int{-1}, nil, false, api.Missing}, {textBare, []int{0}, nil, false, api.Missing}, {textOdd, []int{1, 1}, nil, false, api.Twice}, {textT, make([]int, 1000000), nil, false, api.Twice},
	} {
		load, l := tour.Load(parse(t, x.text), x.round)
		fits, l2 := tour.Fits(parse(t, x.text), x.round)
		if !slices.Equal(load, x.load) || fits != x.fits || l != x.l || l2 != x.l {
			t.Errorf("%q, %.40v: %v, %v, bells %d, %d, want %v, %v, %d", x.text, x.round, load, fits, l, l2, x.load, x.fits, x.l)
		}
	}
}

// P9.1: what is told of any book is what all that can be so tells.
func TestTimesLikeAllThatCanBe(t *testing.T) {
	d := dice.Dice(1)
	none := 0
	for i := range 800 {
		b, _ := anyBook(&d, i%2 == 0)
		all := pasts(b)
		if n, l := tour.Histories(b); n != len(all) || l != api.Fine {
			t.Errorf("%+v: %d histories, bell %d, want %d", b, n, l, len(all))
		}
		for _, round := range roundsOf(b) {
			load, l := tour.Load(b, round)
			fits, l2 := tour.Fits(b, round)
			if !slices.Equal(load, loadOf(b, round)) || fits != fitsIn(b, round) || l+l2 != api.Fine {
				t.Errorf("%+v: Load, Fits of %v: %v, %v, bells %d, %d", b, round, load, fits, l, l2)
			}
		}
		bell := api.Fine
		if len(all) == 0 {
			none++
			bell = api.Odds
		}
		for one := range b.Places {
			for two := range b.Places {
				var want api.Span
				if len(all) > 0 {
					want = oracle.Span(all, func(p past) int { return p.far[one][two] })
				}
				if s, l := tour.Far(b, one, two); s != want || l != bell {
					t.Errorf("%+v: Far %d, %d: %v, bell %d, want %v, %d", b, one, two, s, l, want, bell)
				}
			}
		}
		for job := range b.Jobs {
			want := oracle.Numbers(all, func(p past) int { return p.works[job] })
			if list, l := tour.Works(b, job); !slices.Equal(list, want) || l != bell {
				t.Errorf("%+v: Works %d: %v, bell %d, want %v, %d", b, job, list, l, want, bell)
			}
		}
	}
	if none < 100 {
		t.Errorf("only %d books had no history", none)
	}
}
