package build_test

import (
	"slices"
	"strings"
	"testing"

	"nosale/api"
	"nosale/build"
	"nosale/dice"
)

// P5.2: Histories and Times tell what times the parts can have, by the trials.
func TestTimes(t *testing.T) {
	for _, x := range []struct {
		text  string
		many  int
		times [][]int
	}{
		{textNew, 8, [][]int{{2, 3}, {2}, {1, 2, 3, 4}}}, {textB, 4, [][]int{{2, 3}, {2}, {2, 3}}}, {textW, 8, [][]int{{2, 3}, {2}, {1, 2, 3, 4}}}, {textOne, 1, [][]int{{2}}}, {textBare, 1, [][]int{{0}}},
		// a trial of one kind alone: all parts of a kind have the same time
		{textNew + "trial 0+0+0 7..9\n", 4, [][]int{{3}, {2}, {1, 2, 3, 4}}}, {textNew + "trial 0+0+0 6..8\n", 4, [][]int{{2}, {2}, {1, 2, 3, 4}}}, {textNew + "trial 0+0+0 7..8\n", 0, nil}, {textNew + "trial 0+0+0 0..99\n", 8, [][]int{{2, 3}, {2}, {1, 2, 3, 4}}},
		// the ends of a span, and what is just behind them
		{textNew + "trial 2+1+2 4\n", 2, [][]int{{2, 3}, {2}, {1}}}, {textNew + "trial 2+1+2 10..99\n", 2, [][]int{{2, 3}, {2}, {4}}}, {textNew + "trial 2+1+2 11..99\n", 0, nil}, {textNew + "trial 2+1+2 0..3\n", 0, nil}, {textNew + "trial 2+1+2 5\n", 0, nil},
		// times that hang together
		{textNew + "trial 0+1+2 7\n", 2, [][]int{{2, 3}, {2}, {2, 3}}}, {textNew + "trial 0+1+2 7\ntrial 2+0+0 8\n", 1, [][]int{{3}, {2}, {2}}},
		{textB + "trial 0+1+0 8\n", 2, [][]int{{3}, {2}, {2, 3}}}, {textOdd, 0, nil}, {textClash, 0, nil},
	} {
		b := parse(t, x.text)
		if n, l := build.Histories(b); n != x.many || l != api.Fine {
			t.Errorf("%q: %d histories, bell %d, want %d", x.text, n, l, x.many)
		}
		for part, want := range x.times {
			if list, l := build.Times(b, part); !slices.Equal(list, want) || l != api.Fine {
				t.Errorf("%q: Times %d: %v, bell %d, want %v", x.text, part, list, l, want)
			}
		}
	}
}

// P5.2: Turns and Late tell how long a machine takes; Safe counts those that are late in no history.
func TestTurns(t *testing.T) {
	beat := func(n, text string) string { return strings.Replace(text, "build 8", "build "+n, 1) }
	for _, x := range []struct {
		text    string
		machine []int
		turns   api.Span
		late    api.Sure
		safe    int
	}{
		{textB, []int{0, 0, 0}, to(6, 9), api.Open, 6}, {textB, []int{0, 0, 1}, to(6, 8), api.No, 6}, {textB, []int{2, 1, 2}, to(6, 8), api.No, 6}, {textB, []int{2, 0, 2}, to(6, 9), api.Open, 6},
		// just in time is not late
		{beat("9", textB), []int{0, 0, 0}, to(6, 9), api.No, 10}, {beat("7", textB), []int{0, 0, 1}, to(6, 8), api.Open, 0}, {beat("6", textB), []int{0, 0, 1}, to(6, 8), api.Open, 0}, {beat("5", textB), []int{0, 0, 1}, to(6, 8), api.Yes, 0}, {beat("1", textB), []int{0, 0, 0}, to(6, 9), api.Yes, 0}, {beat("99", textB), []int{0, 0, 0}, to(6, 9), api.No, 10},
		// what the trials leave of all that a machine can take: not each number is reached by both ends together
		{textNew, []int{2, 1, 2}, to(4, 10), api.Open, 2}, {textNew + "trial 0+1+2 7\n", []int{0, 0, 2}, to(7, 8), api.No, 9}, {textNew + "trial 0+1+2 7\n", []int{0, 1, 2}, to(7, 7), api.No, 9}, {beat("7", textNew) + "trial 0+1+2 7\n", []int{2, 0, 2}, to(7, 8), api.Open, 3},
		{textOne, []int{0}, to(2, 2), api.No, 1}, {"build 1 1\npart a 1 1 2 0\n", []int{0}, to(2, 2), api.Yes, 0}, {"build 1 1\npart a 1 1 0 0\n", []int{0}, to(0, 0), api.No, 1},
	} {
		b := parse(t, x.text)
		if s, l := build.Turns(b, x.machine); s != x.turns || l != api.Fine {
			t.Errorf("%q: Turns %v: %v, bell %d, want %v", x.text, x.machine, s, l, x.turns)
		}
		if sure, l := build.Late(b, x.machine); sure != x.late || l != api.Fine {
			t.Errorf("%q: Late %v: %d, bell %d, want %d", x.text, x.machine, sure, l, x.late)
		}
		if n, l := build.Safe(b); n != x.safe || l != api.Fine {
			t.Errorf("%q: %d are safe, bell %d, want %d", x.text, n, l, x.safe)
		}
	}
}

// P5.2: all that is told of times is what the oracle finds.
func TestTimesLikeOracle(t *testing.T) {
	d := dice.Dice(2)
	lates, odd := map[api.Sure]int{}, 0
	for i := range 500 {
		b, _ := anyBook(&d, i%2 == 0)
		all := pasts(b)
		bell := api.Fine
		if len(all) == 0 {
			bell = api.Odds
			odd++
		}
		if n, l := build.Histories(b); n != len(all) || l != api.Fine {
			t.Errorf("%+v: %d histories, bell %d, want %d", b, n, l, len(all))
		}
		for part := range b.Parts {
			want := timesOf(all, part)
			if list, l := build.Times(b, part); !slices.Equal(list, want) || l != bell {
				t.Errorf("%+v: Times %d: %v, bell %d, want %v, %d", b, part, list, l, want, bell)
			}
		}
		safe := 0
		for _, machine := range machinesOf(b) {
			turns, late := api.Span{}, api.Open
			if bell == api.Fine {
				turns, late = turnsOf(all, machine), lateOf(b, all, machine)
				lates[late]++
			}
			if late == api.No {
				safe++
			}
			s, l := build.Turns(b, machine)
			sure, l2 := build.Late(b, machine)
			if s != turns || sure != late || l != bell || l2 != bell {
				t.Errorf("%+v: %v: %v, %d, bells %d, %d, want %v, %d, %d", b, machine, s, sure, l, l2, turns, late, bell)
			}
		}
		if n, l := build.Safe(b); n != safe || l != bell {
			t.Errorf("%+v: %d are safe, bell %d, want %d, %d", b, n, l, safe, bell)
		}
	}
	if odd < 20 || lates[api.Open] < 150 || lates[api.Yes] < 500 || lates[api.No] < 500 {
		t.Errorf("too few of something: %d odd, %v", odd, lates)
	}
}
