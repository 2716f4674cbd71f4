package wheels_test

import (
	"math"
	"slices"
	"strings"
	"testing"

	"nosale/api"
	"nosale/dice"
	"nosale/wheels"
)

// told is what is told of a book's slips.
type told struct {
	text      string
	histories int
	shows     []int // behind all rings
	errors    []int
	fewest    []api.WheelsSlip
	s         api.Bell
}

// P1.2: Histories, Shows, Errors and Fewest of some books that can be counted by hand.
func TestSlips(t *testing.T) {
	for _, x := range []told{
		{textP, 1, []int{0}, []int{0}, nil, api.Fine},
		{textA, 2, []int{228, 240}, []int{-12, 0}, nil, api.Fine},
		{textB, 1, []int{228}, []int{-12}, []api.WheelsSlip{{Ring: 1, Wheel: 0}}, api.Fine},
		{textC, 0, nil, nil, nil, api.Odds},
		{strings.Replace(textA, "wheels 1", "wheels 0", 1), 1, []int{240}, []int{0}, nil, api.Fine},
		// the carry of ring 0 doubles: 9 becomes 10, the next wheel carries, and that can drop
		{textD, 3, []int{5, 95, 105}, []int{-90, 0, 10}, nil, api.Fine},
		{strings.Replace(textD, "wheels 2", "wheels 1", 1), 2, []int{95, 105}, []int{0, 10}, nil, api.Fine},
		{strings.Replace(textD, "5+0+0 none", "5+0+0 -1+0+0", 1), 1, []int{5}, []int{-90}, []api.WheelsSlip{{Ring: 0, Wheel: 0}, {Ring: 0, Wheel: 1}}, api.Fine},
		// a machine of one wheel has no carry that can slip, and half of its range is above 0
		{"wheels 2\nwheel 4 drops\nstart 3\nring 3 none\n", 1, []int{2}, []int{0}, nil, api.Fine},
		{"wheels 1\nwheel 2 drops\nwheel 2 tight\nstart 1+0\nring 1+0 none\n", 2, []int{0, 2}, []int{0, 2}, nil, api.Fine},
		// of two lists with one slip the one of the earlier ring, and of the lower wheel, is the least
		{"wheels 1\nwheel 2 drops\nwheel 2 tight\nstart 1+0\nring 1+0 none\nring 1+0 none\nring 1+0 0+1\n", 2, []int{2}, []int{2}, []api.WheelsSlip{{Ring: 0, Wheel: 0}}, api.Fine},
		// behind a doubled carry the second wheel passes its base twice: then less is shown
		{"wheels 1\nwheel 2 doubles\nwheel 2 doubles\nwheel 4 tight\nstart 1+1+-1\nring 1+1+0 0+-1+1\n", 3, []int{4, 6}, []int{-2, 0, 4}, nil, api.Fine},
	} {
		b := book(t, x.text)
		if n, s := wheels.Histories(b); n != x.histories || s != api.Fine {
			t.Errorf("%q: Histories: %d, bell %d", x.text, n, s)
		}
		if l, s := wheels.Shows(b, len(b.Rings)); !slices.Equal(l, x.shows) || s != x.s {
			t.Errorf("%q: Shows: %v, bell %d", x.text, l, s)
		}
		if l, s := wheels.Errors(b); !slices.Equal(l, x.errors) || s != x.s {
			t.Errorf("%q: Errors: %v, bell %d", x.text, l, s)
		}
		if l, s := wheels.Fewest(b); !slices.Equal(l, x.fewest) || s != x.s {
			t.Errorf("%q: Fewest: %v, bell %d", x.text, l, s)
		}
	}
}

// P1.2: Shows behind some of the rings, and Slipped of each carry.
func TestShowsAndSlipped(t *testing.T) {
	a := book(t, textA)
	for _, x := range []struct {
		rings int
		want  []int
		s     api.Bell
	}{{0, []int{0}, api.Fine}, {1, []int{239}, api.Fine}, {2, []int{228, 240}, api.Fine}, {3, nil, api.Bound}, {-1, nil, api.Bound}, {math.MaxInt, nil, api.Bound}, {math.MinInt, nil, api.Bound}} {
		if l, s := wheels.Shows(a, x.rings); !slices.Equal(l, x.want) || s != x.s {
			t.Errorf("Shows(A, %d): %v, bell %d", x.rings, l, s)
		}
	}
	for _, x := range []struct {
		text        string
		ring, wheel int
		want        api.Sure
		s           api.Bell
	}{
		{textA, 1, 0, api.Open, api.Fine}, {textA, 0, 0, api.No, api.Fine}, {textA, 1, 1, api.No, api.Fine}, {textA, 1, 2, api.No, api.Fine},
		{textB, 1, 0, api.Yes, api.Fine}, {textB, 0, 0, api.No, api.Fine},
		{textA, 2, 0, 0, api.Missing}, {textA, -1, 0, 0, api.Missing}, {textA, 0, 3, 0, api.Missing}, {textA, 0, -1, 0, api.Missing}, {textA, math.MaxInt, math.MinInt, 0, api.Missing},
		{textP, 0, 0, 0, api.Missing}, {textC, 1, 0, 0, api.Odds},
	} {
		if sure, s := wheels.Slipped(book(t, x.text), x.ring, x.wheel); sure != x.want || s != x.s {
			t.Errorf("Slipped(%q, %d, %d): %d, bell %d", x.text, x.ring, x.wheel, sure, s)
		}
	}
}

// slipsLikeOracle compares Histories, Shows, Slipped, Errors and Fewest of a book with what its histories tell.
func slipsLikeOracle(t *testing.T, b api.WheelsBook) {
	t.Helper()
	all := pasts(b)
	want := api.Fine
	if len(all) == 0 {
		want = api.Odds
	}
	if n, s := wheels.Histories(b); n != len(all) || s != api.Fine {
		t.Errorf("%v: Histories: %d, bell %d, want %d", b, n, s, len(all))
	}
	for r := range len(b.Rings) + 1 {
		if l, s := wheels.Shows(b, r); !slices.Equal(l, amountsBehind(b, all, r)) || s != want {
			t.Errorf("%v: Shows %d: %v, bell %d", b, r, l, s)
		}
	}
	for r := range b.Rings {
		for w := range b.Wheels {
			sure := api.Open
			if len(all) > 0 {
				sure = sureOf(all, api.WheelsSlip{Ring: r, Wheel: w})
			}
			if got, s := wheels.Slipped(b, r, w); got != sure || s != want {
				t.Errorf("%v: Slipped %d, %d: %d, bell %d", b, r, w, got, s)
			}
		}
	}
	if l, s := wheels.Errors(b); !slices.Equal(l, errorsOf(b, all)) || s != want {
		t.Errorf("%v: Errors: %v, bell %d", b, l, s)
	}
	var least []api.WheelsSlip
	if len(all) > 0 {
		least = leastSlips(all)
	}
	if l, s := wheels.Fewest(b); !slices.Equal(l, least) || s != want {
		t.Errorf("%v: Fewest: %v, bell %d", b, l, s)
	}
}

// P1.2, P1.7: what is told of slips is that of all histories, and of no others.
func TestSlipsLikeOracle(t *testing.T) {
	d := dice.Dice(2)
	for i := range 1500 {
		b, _ := anyBook(&d, i%2 == 0)
		slipsLikeOracle(t, b)
	}
}

// P1.2: the book with the most histories that a machine can have is counted, too.
func TestSlipsOfTheWidestBook(t *testing.T) {
	b := api.WheelsBook{Most: api.MaxWheelsMost}
	for range api.MaxWheelsWide {
		b.Wheels = append(b.Wheels, api.WheelsWheel{Base: 20, Kind: api.WheelsDoubles})
		b.Start = append(b.Start, 19)
	}
	for range api.MaxWheelsRings {
		b.Rings = append(b.Rings, api.WheelsRing{Keys: []int{19, 19, 19, 19, 19}})
	}
	// all carries can slip: of 24 none, one, or two
	if n, s := wheels.Histories(b); n != 1+24+276 || s != api.Fine {
		t.Errorf("Histories: %d, bell %d", n, s)
	}
	b.Start[0], b.Start[4] = -1, -1
	if n, s := wheels.Histories(b); n < 100000 || s != api.Fine {
		t.Errorf("Histories: %d, bell %d", n, s)
	}
}
