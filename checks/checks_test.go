package checks

import (
	"math"
	"testing"

	"nosale/api"
)

// pages is a book: the bells of the elements of its two lists, which have two at most.
type pages struct{ one, two []api.Bell }

func lists() []List[pages] {
	return []List[pages]{
		{func(b pages) (int, bool) { return len(b.one), len(b.one) <= 2 }, func(b pages, i int) api.Bell { return b.one[i] }},
		{func(b pages) (int, bool) { return len(b.two), len(b.two) <= 2 }, func(b pages, i int) api.Bell { return b.two[i] }},
	}
}

// R1: how many elements there are is looked at first, then the first element that has a bell decides, list by list.
func TestFirst(t *testing.T) {
	long := []api.Bell{api.Odds, api.Odds, api.Odds}
	for i, x := range []struct {
		b    pages
		want api.Bell
	}{
		{pages{}, api.Fine},
		{pages{one: []api.Bell{api.Fine, api.Fine}, two: []api.Bell{api.Fine}}, api.Fine},
		{pages{one: []api.Bell{api.Fine, api.Order}}, api.Order},
		{pages{one: []api.Bell{api.Label, api.Bound}}, api.Label},
		{pages{two: []api.Bell{api.Fine, api.Twice}}, api.Twice},
		{pages{one: []api.Bell{api.Missing}, two: []api.Bell{api.Bound}}, api.Missing},
		{pages{one: long}, api.Count},
		{pages{two: long}, api.Count},
		{pages{one: long, two: []api.Bell{api.Bound}}, api.Count},
		{pages{one: []api.Bell{api.Shape}, two: long}, api.Shape},
		{pages{one: []api.Bell{api.Fine}, two: long}, api.Count},
	} {
		if l := First(x.b, lists()...); l != x.want {
			t.Errorf("%d: bell %d, want %d", i, l, x.want)
		}
	}
	if l := First(pages{one: long}); l != api.Fine {
		t.Errorf("no lists: bell %d", l)
	}
}

// R1: of several checks the first one that has a bell decides; those behind it are not made.
func TestInTurn(t *testing.T) {
	made := 0
	check := func(l api.Bell) func() api.Bell {
		return func() api.Bell {
			made++
			return l
		}
	}
	for i, x := range []struct {
		all  []func() api.Bell
		want api.Bell
		made int
	}{
		{nil, api.Fine, 0},
		{[]func() api.Bell{check(api.Fine), check(api.Fine)}, api.Fine, 2},
		{[]func() api.Bell{check(api.Fine), check(api.Label), check(api.Bound)}, api.Label, 2},
		{[]func() api.Bell{check(api.Odds), check(api.Bound)}, api.Odds, 1},
	} {
		made = 0
		if l := InTurn(x.all...); l != x.want || made != x.made {
			t.Errorf("%d: bell %d after %d checks, want %d, %d", i, l, made, x.want, x.made)
		}
	}
}

// R1: how many numbers there are comes before their bounds; a limit itself is allowed.
func TestEach(t *testing.T) {
	for _, x := range []struct {
		list        []int
		things, top int
		want        api.Bell
	}{
		{nil, 0, 9, api.Fine}, {[]int{0, 9, 5}, 3, 9, api.Fine}, {[]int{0}, 1, 0, api.Fine},
		{nil, 1, 9, api.Count}, {[]int{1}, 0, 9, api.Count}, {[]int{1, 2}, 3, 9, api.Count}, {[]int{10, -1}, 3, 9, api.Count}, {make([]int, 1000000), 3, 9, api.Count},
		{[]int{10}, 1, 9, api.Bound}, {[]int{0, -1}, 2, 9, api.Bound}, {[]int{math.MaxInt}, 1, 9, api.Bound}, {[]int{math.MinInt}, 1, 9, api.Bound},
	} {
		if l := Each(x.list, x.things, x.top); l != x.want {
			t.Errorf("%.40v, %d, to %d: bell %d, want %d", x.list, x.things, x.top, l, x.want)
		}
	}
}

// R1: number by number, one that is no index comes before one that is not above the one before it.
func TestRising(t *testing.T) {
	for _, x := range []struct {
		list   []int
		things int
		want   api.Bell
	}{
		{nil, 0, api.Fine}, {nil, 3, api.Fine}, {[]int{0}, 1, api.Fine}, {[]int{0, 2}, 3, api.Fine}, {[]int{0, 1, 2}, 3, api.Fine},
		{[]int{0}, 0, api.Missing}, {[]int{3}, 3, api.Missing}, {[]int{-1}, 3, api.Missing}, {[]int{math.MinInt}, 3, api.Missing}, {[]int{0, math.MaxInt}, 3, api.Missing},
		{[]int{1, 0}, 3, api.Order}, {[]int{1, 1}, 3, api.Order}, {[]int{0, 2, 1}, 3, api.Order},
		// the first number that has a bell decides, and of its bells Missing
		{[]int{1, 0, 3}, 3, api.Order}, {[]int{1, 3, 0}, 3, api.Missing}, {[]int{1, -1}, 3, api.Missing}, {make([]int, 1000000), 3, api.Order},
	} {
		if l := Rising(x.list, x.things); l != x.want {
			t.Errorf("%.40v of %d: bell %d, want %d", x.list, x.things, l, x.want)
		}
	}
}

// R1: number by number, one that is no index comes before one that was there before.
func TestOnce(t *testing.T) {
	for _, x := range []struct {
		list   []int
		things int
		want   api.Bell
	}{
		{nil, 0, api.Fine}, {nil, 3, api.Fine}, {[]int{0}, 1, api.Fine}, {[]int{2, 0}, 3, api.Fine}, {[]int{1, 2, 0}, 3, api.Fine},
		{[]int{0}, 0, api.Missing}, {[]int{3}, 3, api.Missing}, {[]int{-1}, 3, api.Missing}, {[]int{math.MinInt}, 3, api.Missing}, {[]int{0, math.MaxInt}, 3, api.Missing},
		{[]int{1, 1}, 3, api.Twice}, {[]int{0, 2, 0}, 3, api.Twice},
		// the first number that has a bell decides
		{[]int{1, 1, 3}, 3, api.Twice}, {[]int{1, 3, 1}, 3, api.Missing}, {[]int{3, 3}, 3, api.Missing}, {make([]int, 1000000), 3, api.Twice},
	} {
		if l := Once(x.list, x.things); l != x.want {
			t.Errorf("%.40v of %d: bell %d, want %d", x.list, x.things, l, x.want)
		}
	}
}
