package change_test

import (
	"slices"
	"strings"
	"testing"

	"nosale/api"
	"nosale/change"
	"nosale/dice"
)

// P4.3: Best returns the least order that refuses the fewest sales at most.
func TestBest(t *testing.T) {
	// the first sale that comes takes the only 2, with which another one would be given change, too
	const scarce = "change 5+2\ndrawer 0\ndrawer 1\nsale 3 1+0 open\nsale 3 1+0 open\nsale 2 0+1 open\n"
	for _, x := range []struct {
		text    string
		order   []int
		refused int
	}{
		{textD, []int{0, 1, 2}, 1}, {textD + "count 0 2\n", []int{0, 1, 2}, 0}, {textD + "first 2 0\n", []int{1, 2, 0}, 1}, {textD + "first 2 1\nfirst 1 0\n", []int{2, 1, 0}, 1}, {textBare, nil, 0}, {"change 5\ndrawer 3\nsale 5 1 open\n", []int{0}, 0}, {"change 5\ndrawer 3\nsale 4 1 open\n", []int{0}, 1},
		// first comes whoever brings a 2
		{scarce, []int{0, 2, 1}, 0}, {scarce + "first 1 0\n", []int{1, 2, 0}, 0}, {scarce + "first 0 1\nfirst 1 2\n", []int{0, 1, 2}, 1},
		// both the drawer with which one is refused, and that with which none is, are possible
		{strings.Replace(scarce, "drawer 1\n", "drawer 0..1\n", 1), []int{0, 2, 1}, 1}, {strings.Replace(scarce, "drawer 1\n", "drawer 0\n", 1), []int{0, 2, 1}, 1}, {strings.Replace(scarce, "drawer 1\n", "drawer 0..1\n", 1) + "count 0 1\n", []int{0, 2, 1}, 1}, {strings.Replace(scarce, "drawer 1\n", "drawer 1..2\n", 1), []int{0, 2, 1}, 0}, {strings.Replace(scarce, "drawer 1\n", "drawer 2\n", 1), []int{0, 1, 2}, 0},
		// what was seen tells of the drawer, not of the order
		{strings.Replace(scarce, "sale 3 1+0 open", "sale 3 1+0 refused", 1), []int{0, 2, 1}, 0},
	} {
		if v, n, l := change.Best(parse(t, x.text)); !slices.Equal(v, x.order) || n != x.refused || l != api.Fine {
			t.Errorf("%q: %v, %d, bell %d, want %v, %d", x.text, v, n, l, x.order, x.refused)
		}
	}
}

// P4.3: Float returns the fewest coins that are enough, and of several lists the least one.
func TestFloat(t *testing.T) {
	poor := strings.Replace(strings.Replace(textD, "drawer 1..2", "drawer 0", 1), "drawer 1\n", "drawer 0\n", 1)
	for _, x := range []struct {
		text string
		more []int
	}{
		{textD, []int{0, 1, 0}}, {textD + "count 0 2\n", []int{0, 0, 0}}, {textD + "count 2 2\n", []int{0, 1, 0}}, {poor, nil}, {textD + "first 2 0\n", []int{0, 0, 1}}, {textBare, []int{0}},
		// the coins at the limit, and one that is above it
		{"change 5+1\ndrawer 0\ndrawer 0\nsale 3 1+0 open\n", []int{0, 2}}, {"change 5+1\ndrawer 0\ndrawer 0\nsale 2 1+0 open\n", nil}, {"change 5+1\ndrawer 0\ndrawer 0..1\nsale 2 1+0 open\n", nil}, {"change 5+1\ndrawer 0\ndrawer 1\nsale 2 1+0 open\n", []int{0, 2}}, {"change 5+1\ndrawer 0\ndrawer 0..1\nsale 3 1+0 open\n", []int{0, 2}},
		// more coins than the drawer can have at first
		{"change 5+1\ndrawer 0\ndrawer 9\nsale 0 2+1 open\n", []int{0, 0}}, {"change 50+1\ndrawer 0\ndrawer 9\nsale 39 1+0 open\n", []int{0, 2}},
		// one coin of either kind is enough: the least list is that of the smaller one
		{"change 4+2+1\ndrawer 0\ndrawer 0\ndrawer 1\nsale 6 2+0+0 open\n", []int{0, 0, 1}}, {"change 6+4+2\ndrawer 0\ndrawer 0\ndrawer 1\nsale 2 1+0+0 open\n", []int{0, 0, 1}}, {"change 6+4+2\ndrawer 0\ndrawer 0\ndrawer 0\nsale 2 1+0+0 open\n", []int{0, 1, 0}},
		// sales that can never go
		{"change 5\ndrawer 0\nsale 4 1 open\n", nil}, {"change 5\ndrawer 0\nsale 4 1 refused\n", nil},
		// a sale that was seen to be refused is to go, too
		{"change 5+1\ndrawer 0\ndrawer 0..1\nsale 4 1+0 refused\n", []int{0, 1}}, {"change 5+1\ndrawer 0\ndrawer 0..1\nsale 4 1+0 went\n", []int{0, 0}},
	} {
		v, found, l := change.Float(parse(t, x.text))
		if !slices.Equal(v, x.more) || found != (x.more != nil) || l != api.Fine {
			t.Errorf("%q: %v, %v, bell %d, want %v", x.text, v, found, l, x.more)
		}
	}
}

// P4.3: Clash returns the fewest counts that alone have no history, and of several such lists the least one.
func TestClash(t *testing.T) {
	for _, x := range []struct {
		text string
		want []int
		l    api.Bell
	}{
		{textD, nil, api.Fine}, {textClash, []int{0, 1}, api.Fine}, {textD + "count 0 2\ncount 1 1\n", []int{1}, api.Fine}, {textD + "count 0 2\ncount 0 1\n", []int{0, 1}, api.Fine}, {textD + "count 0 1..2\ncount 0 2\ncount 2 2\n", []int{1, 2}, api.Fine}, {textD + "count 0 2\ncount 2 2\ncount 2 1\n", []int{0, 1}, api.Fine}, {textD + "count 2 2\ncount 2 1\ncount 0 2\n", []int{0, 1}, api.Fine}, {textD + "count 2 2\ncount 0 1\ncount 0 2\n", []int{0, 2}, api.Fine},
		// one is fewer than two with lesser indexes
		{textClash + "count 1 9\n", []int{2}, api.Fine}, {textClash + "count 1 9\ncount 1 8\n", []int{2}, api.Fine},
		// without a history nothing clashes
		{textNever, nil, api.Short}, {textRound, nil, api.Short}, {textNever + "count 0 2\n", nil, api.Short}, {textNever + "count 1 9\n", nil, api.Short}, {textBare, nil, api.Fine}, {textBare + "count 0 2\n", []int{0}, api.Fine}, {textAll, nil, api.Fine},
		// three that clash, no two of which do
		{"change 3+2+1\ndrawer 0..1\ndrawer 0\ndrawer 1..2\nsale 1 2+0+0 open\nsale 5 1+1+0 went\ncount 0 3..5\ncount 2 1\ncount 0 2..3\ncount 1 1\n", []int{0, 1, 3}, api.Fine},
	} {
		if v, l := change.Clash(parse(t, x.text)); !slices.Equal(v, x.want) || l != x.l {
			t.Errorf("%q: %v, bell %d, want %v, %d", x.text, v, l, x.want, x.l)
		}
	}
}

// P4.3: Ask returns the first kind whose count leaves the fewest histories at most.
func TestAsk(t *testing.T) {
	for _, x := range []struct {
		text       string
		kind, left int
	}{
		{textD, 0, 6}, {textD + "count 0 1\n", 2, 3}, {textD + "count 0 2\n", -1, 6}, {textD + "first 0 1\n", 0, 3}, {textD + "count 0 1\ncount 2 1\n", -1, 3}, {textBare, 0, 1}, {textBare + "count 0 1\n", -1, 1}, {textSeen, 0, 3},
		// as good: the first one
		{"change 4+2\ndrawer 0..1\ndrawer 0..1\n", 0, 2}, {"change 4+2\ndrawer 1\ndrawer 0..1\n", 1, 1},
	} {
		if k, n, l := change.Ask(parse(t, x.text)); k != x.kind || n != x.left || l != api.Fine {
			t.Errorf("%q: %d, %d, bell %d, want %d, %d", x.text, k, n, l, x.kind, x.left)
		}
	}
}

// P4.3: all plans are those of the oracle.
func TestPlansLikeOracle(t *testing.T) {
	d := dice.Dice(3)
	asked, clashes, orders, floats := map[int]int{}, map[int]int{}, map[bool]int{}, map[int]int{}
	for i := range 500 {
		b, _ := anyBook(&d, i%2 == 0)
		ran := plays(b)
		all := kept(b, ran)
		list, bell := clashOf(b, ran)
		if v, l := change.Clash(b); !slices.Equal(v, list) || l != bell {
			t.Errorf("%+v: Clash: %v, bell %d, want %v, %d", b, v, l, list, bell)
		}
		clashes[len(list)]++
		if len(all) == 0 {
			continue
		}
		order, refused := bestOf(b, all)
		if v, n, l := change.Best(b); !slices.Equal(v, order) || n != refused || l != api.Fine {
			t.Errorf("%+v: Best: %v, %d, bell %d, want %v, %d", b, v, n, l, order, refused)
		}
		orders[slices.IsSorted(order)]++
		more, found := floatOf(b, all)
		if v, is, l := change.Float(b); !slices.Equal(v, more) || is != found || l != api.Fine {
			t.Errorf("%+v: Float: %v, %v, bell %d, want %v", b, v, is, l, more)
		}
		if found {
			floats[sum(more)]++
		}
		kind, left := askOf(b, all)
		if k, n, l := change.Ask(b); k != kind || n != left || l != api.Fine {
			t.Errorf("%+v: Ask: %d, %d, bell %d, want %d, %d", b, k, n, l, kind, left)
		}
		asked[kind]++
	}
	if clashes[1] < 20 || clashes[2] < 5 || orders[false] < 50 || floats[1] < 20 || floats[2] < 10 || asked[0] < 50 || asked[1] < 50 || asked[2] < 10 {
		t.Errorf("too few of something: clashes %v, sorted orders %v, floats %v, kinds %v", clashes, orders, floats, asked)
	}
}
