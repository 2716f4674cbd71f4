package build_test

import (
	"math"
	"slices"
	"testing"

	"nosale/api"
	"nosale/build"
	"nosale/dice"
	"nosale/oracle"
)

// P5.1: Machines and Why tell what machines there are, and for which places there are no parts.
func TestMachines(t *testing.T) {
	const three = "build 9 3\npart a 1 1 1 0+1+2\npart b 1 1 1 0+1+2\n"
	for _, x := range []struct {
		text string
		many int
		why  []int
	}{
		{textB, 10, nil}, {textNew, 10, nil}, {textOdd, 10, nil}, {textW, 0, []int{1, 2}}, {textOne, 1, nil}, {textBare, 0, []int{0}},
		{three, 8, nil}, {"build 9 4\npart a 1 1 1 0+1+2+3\npart b 1 1 1 0+1+2+3\npart c 1 1 1 0+1+2+3\npart d 1 1 1 0+1+2+3\npart e 1 1 1 0+1+2+3\n", 625, nil},
		// a part that is not there is one all the same
		{"build 9 2\npart a 1 0 1 0+1\n", 1, nil},
		// pairs: two of a kind; two kinds, in any order; pairs that are not beside each other
		{three + "apart 0 0\n", 5, nil}, {three + "apart 0 1\n", 2, nil}, {three + "apart 0 0\napart 1 1\n", 2, nil}, {three + "apart 0 0\napart 0 1\n", 1, nil}, {three + "apart 0 0\napart 0 1\napart 1 1\n", 0, []int{0, 1}},
		{"build 9 2\npart a 1 1 1 0\npart b 1 1 1 1\napart 0 1\n", 0, []int{0, 1}}, {"build 9 2\npart a 1 1 1 1\npart b 1 1 1 0\napart 0 1\n", 0, []int{0, 1}}, {"build 9 3\npart a 1 1 1 0+2\npart b 1 1 1 1\napart 0 0\n", 1, nil}, {"build 9 1\npart a 1 1 1 0\napart 0 0\n", 1, nil},
		// a place without a part is fewer than two that are apart; the least of them
		{"build 9 3\npart a 1 1 1 0+1\napart 0 0\n", 0, []int{2}}, {"build 9 4\npart a 1 1 1 1+2\napart 0 0\n", 0, []int{0}}, {"build 9 3\npart a 1 1 1 0\n", 0, []int{1}}, {"build 9 3\npart a 1 1 1 none\n", 0, []int{0}},
		// the least of several pairs of places, and places that are not the first ones
		{"build 9 4\npart a 1 1 1 0+1\npart b 1 1 1 2+3\napart 0 0\napart 1 1\n", 0, []int{0, 1}}, {"build 9 4\npart a 1 1 1 0+1+2\npart b 1 1 1 2+3\napart 0 1\napart 1 1\n", 0, []int{2, 3}},
		// three places, no two of which are enough; four, no three of which are
		{"build 9 3\npart a 1 1 1 0\npart b 1 1 1 1\npart c 1 1 1 1\npart d 1 1 1 2\napart 0 1\napart 2 3\n", 0, []int{0, 1, 2}},
		{"build 9 4\npart a 1 1 1 0\npart b 1 1 1 1+2\npart c 1 1 1 1+2\npart d 1 1 1 3\napart 1 2\napart 1 3\napart 2 2\n", 0, []int{1, 2, 3}}, {"build 9 4\npart a 1 1 1 0\npart b 1 1 1 1+2\npart c 1 1 1 1+2\npart d 1 1 1 3\napart 0 1\napart 1 2\napart 2 3\n", 0, []int{0, 1, 2, 3}},
	} {
		b := parse(t, x.text)
		if n, l := build.Machines(b); n != x.many || l != api.Fine {
			t.Errorf("%q: %d machines, bell %d, want %d", x.text, n, l, x.many)
		}
		if list, l := build.Why(b); !slices.Equal(list, x.why) || l != api.Fine {
			t.Errorf("%q: Why: %v, bell %d, want %v", x.text, list, l, x.why)
		}
	}
}

// P5.1: Can returns the parts that fit a place, whatever stands beside it.
func TestCan(t *testing.T) {
	for _, x := range []struct {
		text  string
		place int
		want  []int
		l     api.Bell
	}{
		{textB, 0, []int{0, 2}, api.Fine}, {textB, 1, []int{0, 1}, api.Fine}, {textB, 2, []int{0, 1, 2}, api.Fine}, {textW, 0, []int{0, 2}, api.Fine}, {textW, 1, []int{1}, api.Fine}, {textBare, 0, nil, api.Fine}, {textOdd, 1, []int{0, 1}, api.Fine}, {textAll, 3, []int{0, 1, 2, 3, 4}, api.Fine},
		{textB, 3, nil, api.Missing}, {textB, -1, nil, api.Missing}, {textB, math.MaxInt, nil, api.Missing}, {textB, math.MinInt, nil, api.Missing}, {textBare, 1, nil, api.Missing}, {textAll, 4, nil, api.Missing},
	} {
		if list, l := build.Can(parse(t, x.text), x.place); !slices.Equal(list, x.want) || l != x.l {
			t.Errorf("%q: Can %d: %v, bell %d, want %v, %d", x.text, x.place, list, l, x.want, x.l)
		}
	}
}

// P5.1: Different and Cost count the parts of a machine.
func TestCounted(t *testing.T) {
	for _, x := range []struct {
		text            string
		machine         []int
		different, cost int
	}{
		{textB, []int{0, 0, 0}, 1, 12}, {textB, []int{0, 0, 1}, 2, 11}, {textB, []int{0, 1, 2}, 3, 12}, {textB, []int{2, 1, 2}, 2, 13}, {textB, []int{2, 0, 2}, 2, 14}, {textOne, []int{0}, 1, 1},
		{textAll, []int{0, 1, 0, 1}, 2, 198}, {textAll, []int{0, 1, 0, 3}, 3, 248}, {textAll, []int{1, 0, 2, 3}, 4, 150}, {textAll, []int{1, 4, 2, 4}, 3, 15}, {textAll, []int{2, 2, 2, 2}, 1, 4}, {textAll, []int{0, 2, 2, 0}, 2, 200}, {textAll, []int{4, 2, 2, 2}, 2, 10},
	} {
		b := parse(t, x.text)
		if n, l := build.Different(b, x.machine); n != x.different || l != api.Fine {
			t.Errorf("Different %v: %d, bell %d, want %d", x.machine, n, l, x.different)
		}
		if n, l := build.Cost(b, x.machine); n != x.cost || l != api.Fine {
			t.Errorf("Cost %v: %d, bell %d, want %d", x.machine, n, l, x.cost)
		}
	}
}

// P5.1: what there is to build is what the oracle finds.
func TestMachinesLikeOracle(t *testing.T) {
	d := dice.Dice(1)
	whys := map[int]int{}
	for i := range 500 {
		b, _ := anyBook(&d, i%2 == 0)
		all := machinesOf(b)
		if n, l := build.Machines(b); n != len(all) || l != api.Fine {
			t.Errorf("%+v: %d machines, bell %d, want %d", b, n, l, len(all))
		}
		why := whyOf(b)
		if list, l := build.Why(b); !slices.Equal(list, why) || l != api.Fine {
			t.Errorf("%+v: Why: %v, bell %d, want %v", b, list, l, why)
		}
		whys[len(why)]++
		for place := range b.Places {
			want := slices.DeleteFunc(oracle.UpTo(0, len(b.Parts)-1), func(part int) bool { return !slices.Contains(b.Parts[part].Fits, place) })
			if list, l := build.Can(b, place); !slices.Equal(list, want) || l != api.Fine {
				t.Errorf("%+v: Can %d: %v, bell %d, want %v", b, place, list, l, want)
			}
		}
		for _, list := range oracle.Combined(slices.Repeat([][]int{oracle.UpTo(0, len(b.Parts)-1)}, b.Places)) {
			different, cost, bell := 0, 0, api.Shape
			if stands(b, list) {
				different, cost, bell = differentOf(list), costOf(b, list), api.Fine
			}
			n, l := build.Different(b, list)
			m, l2 := build.Cost(b, list)
			if n != different || m != cost || l != bell || l2 != bell {
				t.Errorf("%+v: %v: %d, %d, bells %d, %d, want %d, %d, %d", b, list, n, m, l, l2, different, cost, bell)
			}
		}
	}
	if whys[0] < 100 || whys[1] < 50 || whys[2] < 10 || whys[3] < 1 {
		t.Errorf("too few of something: %v", whys)
	}
}
