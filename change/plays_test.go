package change_test

import (
	"math"
	"slices"
	"strings"
	"testing"

	"nosale/api"
	"nosale/change"
	"nosale/dice"
	"nosale/oracle"
)

// P4.2: Play returns what is refused, and what is left; IsHistory whether that can be.
func TestPlay(t *testing.T) {
	seen := strings.Replace(textD, "sale 2 1+0+0 open", "sale 2 1+0+0 refused", 1)
	for _, x := range []struct {
		text           string
		drawer, order  []int
		refused, after []int
		is             bool
	}{
		{textD, []int{0, 1, 1}, []int{0, 1, 2}, []int{1}, []int{1, 0, 1}, true}, {textD, []int{0, 2, 1}, []int{0, 1, 2}, nil, []int{2, 0, 1}, true}, {textD, []int{0, 1, 1}, []int{1, 0, 2}, []int{0}, []int{1, 0, 2}, true}, {textD, []int{0, 1, 1}, []int{2, 1, 0}, []int{0}, []int{1, 0, 2}, true}, {textD, []int{0, 1, 1}, []int{1, 2, 0}, []int{0}, []int{1, 0, 2}, true},
		// a drawer that was not there, whatever is known
		{textD, []int{0, 0, 0}, []int{0, 1, 2}, []int{0, 1}, []int{0, 0, 1}, false}, {textD, []int{0, 3, 1}, []int{0, 1, 2}, nil, []int{2, 1, 1}, false}, {textD, []int{30, 30, 30}, []int{2, 0, 1}, nil, []int{32, 28, 30}, false}, {textD, []int{1, 1, 1}, []int{0, 1, 2}, []int{1}, []int{2, 0, 1}, false}, {textD, []int{0, 1, 0}, []int{2, 0, 1}, []int{1}, []int{1, 0, 0}, false},
		// refused sales are told ascending, not in the order of the sales
		{textD, []int{0, 0, 0}, []int{1, 0, 2}, []int{0, 1}, []int{0, 0, 1}, false},
		// what is paid can be given as change
		{"change 5+2+1\ndrawer 0\ndrawer 0\ndrawer 0\nsale 3 1+0+2 open\nsale 1 0+1+1 open\n", []int{0, 0, 0}, []int{1, 0}, []int{0}, []int{0, 0, 1}, true}, {"change 5+2+1\ndrawer 0\ndrawer 0\ndrawer 0\nsale 5 1+0+2 open\nsale 1 0+1+1 open\n", []int{0, 0, 0}, []int{0, 1}, nil, []int{1, 0, 1}, true}, {"change 5+2+1\ndrawer 0\ndrawer 0\ndrawer 0\nsale 0 1+1+1 open\n", []int{0, 0, 0}, []int{0}, nil, []int{0, 0, 0}, true},
		// a sale that is refused leaves the drawer as it was
		{"change 5+2\ndrawer 0\ndrawer 1\nsale 4 1+1 open\nsale 3 1+0 open\n", []int{0, 1}, []int{0, 1}, []int{0}, []int{1, 0}, true},
		// the fewest coins are given, even if others would be needed later
		{"change 6+4+2\ndrawer 1\ndrawer 2\ndrawer 1\nsale 4 2+0+0 open\n", []int{1, 2, 1}, []int{0}, nil, []int{2, 2, 0}, true},
		// no sales
		{textBare, []int{1}, nil, nil, []int{1}, true}, {textBare, []int{2}, nil, nil, []int{2}, false},
		// what is known
		{seen, []int{0, 1, 1}, []int{0, 1, 2}, []int{1}, []int{1, 0, 1}, true}, {seen, []int{0, 2, 1}, []int{0, 1, 2}, nil, []int{2, 0, 1}, false}, {textD + "first 1 0\n", []int{0, 1, 1}, []int{0, 1, 2}, []int{1}, []int{1, 0, 1}, false}, {textD + "first 1 0\n", []int{0, 1, 1}, []int{1, 0, 2}, []int{0}, []int{1, 0, 2}, true}, {textNever, []int{0, 1, 1}, []int{0, 1, 2}, []int{1}, []int{1, 0, 1}, false}, {textD + "count 2 2\n", []int{0, 1, 1}, []int{0, 1, 2}, []int{1}, []int{1, 0, 1}, false}, {textD + "count 2 2\n", []int{0, 1, 1}, []int{1, 0, 2}, []int{0}, []int{1, 0, 2}, true}, {textD + "count 2 0..1\n", []int{0, 1, 1}, []int{1, 0, 2}, []int{0}, []int{1, 0, 2}, false}, {textClash, []int{0, 1, 1}, []int{0, 1, 2}, []int{1}, []int{1, 0, 1}, false},
	} {
		b := parse(t, x.text)
		refused, after, l := change.Play(b, x.drawer, x.order)
		if !slices.Equal(refused, x.refused) || !slices.Equal(after, x.after) || l != api.Fine {
			t.Errorf("%q, %v, %v: %v, %v, bell %d, want %v, %v", x.text, x.drawer, x.order, refused, after, l, x.refused, x.after)
		}
		if is, l := change.IsHistory(b, x.drawer, x.order); is != x.is || l != api.Fine {
			t.Errorf("%q, %v, %v: a history: %v, bell %d", x.text, x.drawer, x.order, is, l)
		}
	}
}

// P4.2, P0.2: drawer and order have their bells, in this order, and nothing else with them.
func TestPlayBells(t *testing.T) {
	good, wrong := []int{0, 1, 1}, []int{0, 1, 31}
	for _, text := range []string{textD, textNever, textClash} {
		b := parse(t, text)
		for _, x := range []struct {
			drawer, order []int
			want          api.Bell
		}{
			{good, []int{0, 1, 2}, api.Fine}, {[]int{0, 1}, nil, api.Count}, {wrong, nil, api.Bound}, {wrong, []int{0, 1, 3}, api.Bound}, {[]int{0, 1}, []int{0, 0, 0}, api.Count}, {[]int{0, -1, 0}, []int{0, 1, 2}, api.Bound}, {[]int{math.MaxInt, 0, 0}, []int{0, 1, 2}, api.Bound},
			{good, nil, api.Count}, {good, []int{0, 1}, api.Count}, {good, []int{0, 0}, api.Count}, {good, []int{0, 1, 2, 0}, api.Count}, {good, []int{0, 1, 2, 3}, api.Count}, {good, make([]int, 1000), api.Count},
			{good, []int{0, 1, 3}, api.Missing}, {good, []int{-1, 0, 1}, api.Missing}, {good, []int{math.MinInt, math.MaxInt, 0}, api.Missing}, {good, []int{0, 0, 1}, api.Twice}, {good, []int{2, 1, 2}, api.Twice},
			// element by element
			{good, []int{0, 0, 3}, api.Twice}, {good, []int{0, 3, 0}, api.Missing}, {good, []int{3, 3, 3}, api.Missing}, {good, []int{1, 1, -1}, api.Twice},
		} {
			refused, after, l := change.Play(b, x.drawer, x.order)
			if l != x.want || l != api.Fine && len(refused)+len(after) > 0 {
				t.Errorf("Play %v, %v: %v, %v, bell %d, want %d", x.drawer, x.order, refused, after, l, x.want)
			}
			if is, l := change.IsHistory(b, x.drawer, x.order); l != x.want || l != api.Fine && is {
				t.Errorf("IsHistory %v, %v: %v, bell %d, want %d", x.drawer, x.order, is, l, x.want)
			}
		}
	}
}

// P4.2: the histories of the books above, and what is so in them.
func TestHistories(t *testing.T) {
	const o, y, n = api.Open, api.Yes, api.No
	refused := strings.Replace(textD, "sale 2 1+0+0 open", "sale 2 1+0+0 refused", 1)
	for _, x := range []struct {
		text      string
		many      int
		had, left [][]int
		goes      []api.Sure
		runs      api.Sure
	}{
		{textD, 12, [][]int{{0}, {1, 2}, {1}}, [][]int{{1, 2}, {0}, {1, 2}}, []api.Sure{o, o, y}, o},
		{textD + "count 2 2\n", 3, [][]int{{0}, {1}, {1}}, [][]int{{1}, {0}, {2}}, []api.Sure{n, y, y}, y},
		{textD + "count 0 2\n", 6, [][]int{{0}, {2}, {1}}, [][]int{{2}, {0}, {1}}, []api.Sure{y, y, y}, n},
		{textD + "first 0 1\n", 6, [][]int{{0}, {1, 2}, {1}}, [][]int{{1, 2}, {0}, {1}}, []api.Sure{y, o, y}, o},
		{textD + "first 0 1\nfirst 1 2\nfirst 0 2\n", 2, [][]int{{0}, {1, 2}, {1}}, [][]int{{1, 2}, {0}, {1}}, []api.Sure{y, o, y}, o},
		{refused, 3, [][]int{{0}, {1}, {1}}, [][]int{{1}, {0}, {1}}, []api.Sure{y, n, y}, y},
		{textBare, 2, [][]int{{0, 1}}, [][]int{{0, 1}}, nil, n},
		{textBare + "count 0 1..30\n", 1, [][]int{{1}}, [][]int{{1}}, nil, n},
		{textSeen, 6, [][]int{{0, 1}, {0}}, [][]int{{1, 2}, {0}}, []api.Sure{n, y, y}, y},
	} {
		b := parse(t, x.text)
		if many, l := change.Histories(b); many != x.many || l != api.Fine {
			t.Errorf("%q: %d histories, bell %d, want %d", x.text, many, l, x.many)
		}
		for k := range b.Kinds {
			if v, l := change.Had(b, k); !slices.Equal(v, x.had[k]) || l != api.Fine {
				t.Errorf("%q: Had %d: %v, bell %d, want %v", x.text, k, v, l, x.had[k])
			}
			if v, l := change.Left(b, k); !slices.Equal(v, x.left[k]) || l != api.Fine {
				t.Errorf("%q: Left %d: %v, bell %d, want %v", x.text, k, v, l, x.left[k])
			}
		}
		for i := range b.Sales {
			if v, l := change.Goes(b, i); v != x.goes[i] || l != api.Fine {
				t.Errorf("%q: Goes %d: %d, bell %d, want %d", x.text, i, v, l, x.goes[i])
			}
		}
		if v, l := change.Runs(b); v != x.runs || l != api.Fine {
			t.Errorf("%q: Runs: %d, bell %d, want %d", x.text, v, l, x.runs)
		}
	}
}

// P4.2: as many drawers, sales and firsts as there can be.
func TestManyHistories(t *testing.T) {
	b := parse(t, textAll)
	b.Firsts, b.Counts = nil, nil
	for i, s := range b.Drawer {
		b.Drawer[i] = to(s.Low, s.Low+1)
	}
	if n, l := change.Histories(b); n != 16*24 || l != api.Fine {
		t.Errorf("%d histories, bell %d", n, l)
	}
	b.Firsts = []api.ChangeFirst{first(0, 1), first(1, 2), first(2, 3), first(0, 3)}
	if n, l := change.Histories(b); n != 16 || l != api.Fine {
		t.Errorf("%d histories in one order, bell %d", n, l)
	}
	b.Firsts[3] = first(3, 0)
	if n, l := change.Histories(b); n != 0 || l != api.Fine {
		t.Errorf("%d histories in a circle, bell %d", n, l)
	}
}

// P4.2: all histories, and what is told of them, are those of the oracle.
func TestHistoriesLikeOracle(t *testing.T) {
	d := dice.Dice(2)
	none, open, refusals := 0, 0, 0
	for i := range 600 {
		b, real := anyBook(&d, i%2 == 0)
		ran := plays(b)
		for _, p := range ran {
			refused, after, l := change.Play(b, p.first, p.order)
			if !slices.Equal(refused, p.refused) || !slices.Equal(after, p.last) || l != api.Fine {
				t.Errorf("%+v: %v, %v, bell %d, want %v", b, refused, after, l, p)
			}
			refusals += len(refused)
			if is, l := change.IsHistory(b, p.first, p.order); is != agrees(b, p) || l != api.Fine {
				t.Errorf("%+v, %v: a history: %v, bell %d", b, p, is, l)
			}
		}
		if refused, after, _ := change.Play(b, real.first, real.order); !slices.Equal(refused, real.refused) || !slices.Equal(after, real.last) {
			t.Errorf("%+v: %v, %v, want %v", b, refused, after, real)
		}
		all := kept(b, ran)
		if n, l := change.Histories(b); n != len(all) || l != api.Fine {
			t.Errorf("%+v: %d histories, bell %d, want %d", b, n, l, len(all))
		}
		if len(all) == 0 {
			none++
			continue
		}
		open += toldLikeOracle(t, b, all)
	}
	if none < 50 || open < 100 || refusals < 5000 {
		t.Errorf("too few of something: %d without a history, %d open, %d refused", none, open, refusals)
	}
}

// toldLikeOracle compares what is told of all histories with the oracle, and returns how many things are open.
func toldLikeOracle(t *testing.T, b api.ChangeBook, all []past) int {
	t.Helper()
	open := 0
	for k := range b.Kinds {
		want := oracle.Numbers(all, func(p past) int { return p.first[k] })
		if v, l := change.Had(b, k); !slices.Equal(v, want) || l != api.Fine {
			t.Errorf("%+v: Had %d: %v, bell %d, want %v", b, k, v, l, want)
		}
		want = oracle.Numbers(all, func(p past) int { return p.last[k] })
		if v, l := change.Left(b, k); !slices.Equal(v, want) || l != api.Fine {
			t.Errorf("%+v: Left %d: %v, bell %d, want %v", b, k, v, l, want)
		}
	}
	for i := range b.Sales {
		want := oracle.Sure(all, func(p past) bool { return p.went(i) })
		if v, l := change.Goes(b, i); v != want || l != api.Fine {
			t.Errorf("%+v: Goes %d: %d, bell %d, want %d", b, i, v, l, want)
		}
		if want == api.Open {
			open++
		}
	}
	want := oracle.Sure(all, func(p past) bool { return len(p.refused) > 0 })
	if v, l := change.Runs(b); v != want || l != api.Fine {
		t.Errorf("%+v: Runs: %d, bell %d, want %d", b, v, l, want)
	}
	return open
}
