package tour_test

import (
	"testing"

	"nosale/api"
	"nosale/tour"
)

// P9.1, P9.2, P9.3: the chapter's examples, each row of its table.
func TestExamples(t *testing.T) {
	b := parse(t, textT)
	is := func(name string, want string, got ...any) {
		t.Helper()
		if s := show(got...); s != want {
			t.Errorf("%s: %s, want %s", name, s, want)
		}
	}
	many, l := tour.Histories(b)
	far, l2 := tour.Far(b, 0, 1)
	far2, l3 := tour.Far(b, 0, 2)
	far3, l4 := tour.Far(b, 2, 1)
	works, l5 := tour.Works(b, 1)
	is("Histories, Far, Works", show(4, to(2, 3), to(5, 5), to(4, 4), []int{1, 2}, 0, 0, 0, 0, 0), many, far, far2, far3, works, l, l2, l3, l4, l5)
	load, l := tour.Load(b, []int{0, 1})
	fits, l2 := tour.Fits(b, []int{0, 1})
	fits2, l3 := tour.Fits(b, []int{0, 1, 2})
	is("Load, Fits", "[[3] true false 0 0 0]", load, fits, fits2, l, l2, l3)
	ends, l := tour.Ends(b, []int{0, 1})
	home, l2 := tour.Home(b, []int{0, 1})
	is("Ends, Home", show([]api.Span{to(3, 4), to(8, 10)}, to(13, 15), 0, 0), ends, home, l, l2)
	late, l := tour.Late(b, []int{1, 0}, 1)
	late2, l2 := tour.Late(b, []int{0, 1}, 1)
	safe, l3 := tour.Safe(b, []int{1, 0})
	safe2, l4 := tour.Safe(b, []int{0, 1})
	is("Late, Safe", show(api.Yes, api.No, false, true, 0, 0, 0, 0), late, late2, safe, safe2, l, l2, l3, l4)
	best, home, l := tour.Best(b)
	swiftest, home2, l2 := tour.Swiftest(b, []int{0, 1})
	never, l3 := tour.Never(b)
	is("Best, Swiftest, Never", show([]int{0, 2}, to(6, 8), []int{0, 1}, to(13, 15), []int{}, 0, 0, 0), best, home, swiftest, home2, never, l, l2, l3)
	way, left, l := tour.Ask(b)
	known, l2 := tour.Time(b, 0, to(2, 2))
	many, _ = tour.Histories(known)
	noted, l3 := tour.Note(b, note(6, 6, 0, 1))
	far, _ = tour.Far(noted, 0, 1)
	is("Ask, Time, Note", show(0, 2, 2, to(2, 2), 0, 0, 0), way, left, many, far, l, l2, l3)
	clash, l := tour.Clash(parse(t, textOdd))
	is("Clash", "[[0] 0]", clash, l)
	text, l := tour.Print(b)
	is("Print", show(textT, api.Fine), text, l)
}
