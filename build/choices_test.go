package build_test

import (
	"slices"
	"strings"
	"testing"

	"nosale/api"
	"nosale/build"
	"nosale/dice"
)

// choice is what Fewest, Cheapest, Swiftest and Needs are to return.
type choice struct {
	fewest    []int
	different int
	cheapest  []int
	cost      int
	swiftest  []int
	took      api.Span
	needs     []int
}

// is compares all choices of a book with what is expected, or with the bell alone.
func (x choice) is(t *testing.T, b api.BuildBook, want api.Bell) {
	t.Helper()
	var got choice
	var l, l2, l3, l4 api.Bell
	got.fewest, got.different, l = build.Fewest(b)
	got.cheapest, got.cost, l2 = build.Cheapest(b)
	got.swiftest, got.took, l3 = build.Swiftest(b)
	got.needs, l4 = build.Needs(b)
	if show(got, l, l2, l3, l4) != show(x, want, want, want, want) {
		t.Errorf("%+v: %+v, bells %d, %d, %d, %d, want %+v, %d", b, got, l, l2, l3, l4, x, want)
	}
}

// P5.3: Fewest, Cheapest, Swiftest and Needs choose among the safe machines; of several as good ones the least list.
func TestChoices(t *testing.T) {
	b := choice{[]int{0, 0, 1}, 2, []int{0, 0, 1}, 11, []int{0, 0, 1}, to(6, 8), []int{1}}
	const two = "build 9 2\npart a 1 1 4 0+1\npart b 1 1 4 0+1\n"
	for _, x := range []struct {
		text string
		choice
		want api.Bell
	}{
		{textB, b, api.Fine}, {strings.Replace(textB, "build 8", "build 9", 1), choice{[]int{0, 0, 0}, 1, []int{0, 0, 1}, 11, []int{0, 0, 1}, to(6, 8), nil}, api.Fine}, {textOne, choice{[]int{0}, 1, []int{0}, 1, []int{0}, to(2, 2), []int{0}}, api.Fine},
		// parts that are not there can be chosen all the same
		{strings.Replace(textB, "gear 3 3", "gear 3 0", 1), b, api.Fine},
		{strings.Replace(textB, "cam 4", "cam 9", 1), choice{[]int{2, 1, 2}, 2, []int{2, 1, 2}, 13, []int{0, 0, 1}, to(6, 8), []int{1}}, api.Fine},
		// nothing makes a difference: the least list
		{two, choice{[]int{0, 0}, 1, []int{0, 0}, 2, []int{0, 0}, to(8, 8), nil}, api.Fine}, {two + "apart 0 0\n", choice{[]int{1, 1}, 1, []int{0, 1}, 2, []int{0, 1}, to(8, 8), []int{1}}, api.Fine}, {two + "apart 0 0\napart 1 1\n", choice{[]int{0, 1}, 2, []int{0, 1}, 2, []int{0, 1}, to(8, 8), []int{0, 1}}, api.Fine},
		// of those with as few different parts the cheapest one
		{"build 9 2\npart a 2 1 4 0+1\npart b 1 1 4 0+1\npart c 0 1 4 0\n", choice{[]int{1, 1}, 1, []int{2, 1}, 1, []int{0, 0}, to(8, 8), nil}, api.Fine},
		// fewer parts are better than cheaper ones
		{"build 9 2\npart a 9 1 4 0+1\npart b 1 1 4 0\npart c 1 1 4 1\n", choice{[]int{0, 0}, 1, []int{1, 2}, 2, []int{0, 0}, to(8, 8), nil}, api.Fine},
		// swift is what takes the fewest ticks at most, whatever it takes at least; and what is dear can be swift
		{"build 9 1\npart a 1 1 3..6 0\npart b 9 1 5 0\npart c 5 1 4..5 0\n", choice{[]int{0}, 1, []int{0}, 1, []int{1}, to(5, 5), nil}, api.Fine},
		// what is not safe is not chosen, however cheap
		{"build 5 1\npart a 1 1 3..6 0\npart b 9 1 5 0\npart c 7 1 4..5 0\n", choice{[]int{2}, 1, []int{2}, 7, []int{1}, to(5, 5), nil}, api.Fine}, {"build 4 1\npart a 1 1 3..6 0\npart b 9 1 5 0\npart c 7 1 4..5 0\n", choice{}, api.Short},
		// needed is what all safe machines have, at any place
		{"build 5 2\npart a 1 1 1 0+1\npart b 1 1 4 0+1\n", choice{[]int{0, 0}, 1, []int{0, 0}, 2, []int{0, 0}, to(2, 2), []int{0}}, api.Fine},
		{textW, choice{}, api.Short}, {textBare, choice{}, api.Short}, {strings.Replace(textB, "build 8", "build 7", 1), choice{}, api.Short}, {textOdd, choice{}, api.Odds}, {strings.Replace(textOdd, "build 8", "build 1", 1), choice{}, api.Odds},
	} {
		x.is(t, parse(t, x.text), x.want)
	}
}

// P5.3: Builds tells how many safe machines can be built from the parts that are there.
func TestBuilds(t *testing.T) {
	stock := func(cam, gear, pawl string) string {
		return strings.NewReplacer("cam 4 3", "cam 4 "+cam, "gear 3 3", "gear 3 "+gear, "pawl 5 1", "pawl 5 "+pawl).Replace(textB)
	}
	for _, x := range []struct {
		text string
		want int
		l    api.Bell
	}{
		{textB, 2, api.Fine}, {stock("0", "0", "0"), 0, api.Fine}, {stock("3", "0", "3"), 0, api.Fine}, {stock("2", "3", "1"), 1, api.Fine}, {stock("2", "3", "2"), 2, api.Fine}, {stock("3", "3", "3"), 3, api.Fine}, {stock("3", "3", "2"), 2, api.Fine}, {stock("0", "3", "3"), 1, api.Fine}, {stock("1", "1", "1"), 1, api.Fine},
		{textOne, 1, api.Fine}, {"build 8 1\npart a 1 3 2 0\npart b 1 3 8 0\npart c 1 3 9 0\npart d 1 3 0 0\npart e 1 3 1 0\n", 12, api.Fine}, {"build 9 1\npart a 1 3 2 0\npart b 1 3 8 0\npart c 1 3 9 0\npart d 1 3 0 0\npart e 1 3 1 0\n", 15, api.Fine},
		// whoever builds a, a first has no a for the others
		{"build 9 2\npart a 1 2 1 0+1\npart b 1 1 1 1\npart c 1 1 1 1\n", 2, api.Fine}, {"build 9 2\npart a 1 3 1 0+1\npart b 1 1 1 1\npart c 1 1 1 1\n", 2, api.Fine}, {"build 9 2\npart a 1 3 1 0+1\npart b 1 3 1 1\n", 3, api.Fine}, {"build 9 2\npart a 1 3 1 0+1\npart b 1 3 1 1\napart 0 1\n", 1, api.Fine},
		// as many parts as there can be
		{"build 99 4\npart a 1 3 1 0+1+2+3\npart b 1 3 1 0+1+2+3\npart c 1 3 1 0+1+2+3\npart d 1 3 1 0+1+2+3\npart e 1 3 1 0+1+2+3\n", 3, api.Fine}, {"build 99 3\npart a 1 3 1 0+1+2\npart b 1 3 1 0+1+2\npart c 1 3 1 0+1+2\npart d 1 3 1 0+1+2\npart e 1 3 1 0+1+2\n", 5, api.Fine},
		// nothing is safe, or there
		{textW, 0, api.Fine}, {textBare, 0, api.Fine}, {strings.Replace(textB, "build 8", "build 7", 1), 0, api.Fine}, {textOdd, 0, api.Odds},
	} {
		if n, l := build.Builds(parse(t, x.text)); n != x.want || l != x.l {
			t.Errorf("%q: %d, bell %d, want %d, %d", x.text, n, l, x.want, x.l)
		}
	}
}

// P5.3: all choices are those of the oracle.
func TestChoicesLikeOracle(t *testing.T) {
	d := dice.Dice(3)
	differ, builds, needs := 0, map[int]int{}, map[int]int{}
	for i := range 500 {
		b, _ := anyBook(&d, i%2 == 0)
		all := pasts(b)
		if len(all) == 0 {
			choice{}.is(t, b, api.Odds)
			continue
		}
		safe := safeOf(b, all)
		many := buildsOf(b, safe)
		if n, l := build.Builds(b); n != many || l != api.Fine {
			t.Errorf("%+v: Builds: %d, bell %d, want %d", b, n, l, many)
		}
		builds[many]++
		if len(safe) == 0 {
			choice{}.is(t, b, api.Short)
			continue
		}
		var want choice
		want.fewest = leastOf(safe, func(m []int) int { return 1000*differentOf(m) + costOf(b, m) })
		want.different = differentOf(want.fewest)
		want.cheapest = leastOf(safe, func(m []int) int { return costOf(b, m) })
		want.cost = costOf(b, want.cheapest)
		want.swiftest = leastOf(machinesOf(b), func(m []int) int { return turnsOf(all, m).High })
		want.took = turnsOf(all, want.swiftest)
		want.needs = needsOf(b, safe)
		want.is(t, b, api.Fine)
		needs[len(want.needs)]++
		if !slices.Equal(want.fewest, want.cheapest) && !slices.Equal(want.cheapest, want.swiftest) {
			differ++
		}
	}
	if differ < 20 || builds[0] < 50 || builds[1] < 30 || builds[2] < 10 || builds[3] < 10 || needs[0] < 30 || needs[1] < 30 || needs[2] < 5 {
		t.Errorf("too few of something: %d choices differ, builds %v, needs %v", differ, builds, needs)
	}
}
