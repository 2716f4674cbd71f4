package build_test

import (
	"testing"

	"nosale/api"
	"nosale/build"
)

// P5.1, P5.2, P5.3, P5.4: the chapter's examples, each row of its table.
func TestExamples(t *testing.T) {
	b, w := parse(t, textB), parse(t, textW)
	is := func(name string, want string, got ...any) {
		t.Helper()
		if s := show(got...); s != want {
			t.Errorf("%s: %s, want %s", name, s, want)
		}
	}
	machines, l := build.Machines(b)
	safe, l2 := build.Safe(b)
	many, l3 := build.Histories(b)
	times, l4 := build.Times(b, 2)
	is("Machines, Safe, Histories, Times", "[10 6 4 [2 3] 0]", machines, safe, many, times, l+l2+l3+l4)
	turns, l := build.Turns(b, []int{0, 0, 0})
	late, l2 := build.Late(b, []int{0, 0, 0})
	is("0, 0, 0", show(to(6, 9), api.Open, api.Fine), turns, late, l+l2)
	turns, l = build.Turns(b, []int{0, 0, 1})
	late, l2 = build.Late(b, []int{0, 0, 1})
	is("0, 0, 1", show(to(6, 8), api.No, api.Fine), turns, late, l+l2)
	machine, n, l := build.Fewest(b)
	is("Fewest", "[[0 0 1] 2 0]", machine, n, l)
	machine, n, l = build.Cheapest(b)
	is("Cheapest", "[[0 0 1] 11 0]", machine, n, l)
	machine, turns, l = build.Swiftest(b)
	is("Swiftest", show([]int{0, 0, 1}, to(6, 8), api.Fine), machine, turns, l)
	needs, l := build.Needs(b)
	builds, l2 := build.Builds(b)
	can, l3 := build.Can(b, 1)
	is("Needs, Builds, Can", "[[1] 2 [0 1] 0]", needs, builds, can, l+l2+l3)
	cost, l := build.Cost(b, []int{2, 1, 2})
	different, l2 := build.Different(b, []int{2, 1, 2})
	is("Cost, Different", "[13 2 0]", cost, different, l+l2)
	machines, l = build.Machines(w)
	why, l2 := build.Why(w)
	none, l3 := build.Why(b)
	is("W", "[0 [1 2] [] 0]", machines, why, none, l+l2+l3)
	part, left, l := build.Ask(b)
	is("Ask", "[0 2 0]", part, left, l)
	timed, l := build.Time(b, 0, to(3, 3))
	many, l2 = build.Histories(timed)
	is("Time", "[2 0]", many, l+l2)
	tried, l := build.Try(b, trial(to(8, 8), 0, 1, 0))
	times, l2 = build.Times(tried, 0)
	is("Try", "[[3] 0]", times, l+l2)
	clash, l := build.Clash(parse(t, textOdd))
	is("Clash", "[[1] 0]", clash, l)
	text, l := build.Print(b)
	is("Print", show(textB, api.Fine), text, l)
}
