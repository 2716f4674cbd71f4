package sales_test

import (
	"math"
	"slices"
	"strings"
	"testing"

	"nosale/api"
	"nosale/dice"
	"nosale/oracle"
	"nosale/sales"
)

// P6.1: Play tells what the slips amount to now, and which sums are false, whatever is known; IsHistory tells whether that is a history.
func TestPlay(t *testing.T) {
	const twice = "sales 0\nslip sold 0 0 -1 9 open\nslip fix 0 0 0 5 open\nslip fix 0 1 0 7 open\nslip back 0 1 0 6 open\n"
	for _, x := range []struct {
		text       string
		numbers    []int
		signed     []bool
		now, wrong []int
		is         bool
	}{
		{textS, []int{21, 10, 5, 30}, []bool{false}, []int{21, 10, 5, 0}, []int{1}, true}, {textS, []int{21, 10, 5, 30}, []bool{true}, []int{30, 10, 5, 0}, []int{0, 1}, false},
		// whatever Amount and Signed say
		{textS, []int{0, 0, 0, 0}, []bool{true}, []int{0, 0, 0, 0}, []int{0, 1}, false}, {textS, []int{999, 999, 999, 999}, []bool{false}, []int{999, 999, 999, 0}, []int{0, 1}, false}, {textS, []int{20, 12, 5, 30}, []bool{false}, []int{20, 12, 5, 0}, nil, false}, {textS, []int{20, 10, 5, 31}, []bool{false}, []int{20, 10, 5, 0}, []int{1}, false}, {textS, []int{23, 10, 7, 30}, []bool{false}, []int{23, 10, 7, 0}, []int{1}, false}, {with("30 open", "30 yes"), []int{21, 10, 5, 30}, []bool{false}, []int{21, 10, 5, 0}, []int{1}, false}, {with("30 open", "30 no"), []int{21, 10, 5, 30}, []bool{false}, []int{21, 10, 5, 0}, []int{1}, true}, {with("30 open", "30 no"), []int{21, 10, 5, 30}, []bool{true}, []int{30, 10, 5, 0}, []int{0, 1}, false},
		// more sums are false than can be, or one that is firm
		{with("sales 1", "sales 0"), []int{21, 10, 5, 30}, []bool{false}, []int{21, 10, 5, 0}, []int{1}, false}, {with("12 loose", "12 firm"), []int{21, 10, 5, 30}, []bool{false}, []int{21, 10, 5, 0}, []int{1}, false}, {with("16 loose", "16 firm"), []int{21, 10, 5, 30}, []bool{false}, []int{21, 10, 5, 0}, []int{1}, true}, {with("sales 1", "sales 2"), []int{21, 10, 5, 30}, []bool{true}, []int{30, 10, 5, 0}, []int{0, 1}, true},
		// the last fix that is signed
		{twice, []int{9, 5, 7, 6}, []bool{true, true}, []int{7, 0, 0, 6}, nil, true}, {twice, []int{9, 5, 7, 6}, []bool{false, true}, []int{7, 0, 0, 6}, nil, true}, {twice, []int{9, 5, 7, 6}, []bool{true, false}, []int{5, 0, 0, 6}, nil, false}, {twice, []int{9, 5, 7, 6}, []bool{false, false}, []int{9, 0, 0, 6}, nil, true},
		// the amount of what was taken back is now another one, too
		{textOdd, []int{5, 6, 7}, []bool{false}, []int{5, 6, 0}, nil, false}, {strings.Replace(textOdd, "1 7 open", "1 5 open", 1), []int{5, 6, 5}, []bool{true}, []int{5, 5, 0}, nil, true}, {strings.Replace(textOdd, "1 7 open", "1 5 open", 1), []int{5, 6, 5}, []bool{false}, []int{5, 6, 0}, nil, false},
		// taken back twice, by all slips for it together
		{"sales 0\nslip sold 0 0 -1 9 open\nslip back 1 1 0 4 open\nslip back 2 2 0 5 open\n", []int{9, 4, 5}, nil, []int{9, 4, 5}, nil, true}, {"sales 0\nslip sold 0 0 -1 9 open\nslip back 1 1 0 4 open\nslip back 2 2 0 6 open\n", []int{9, 4, 6}, nil, []int{9, 4, 6}, nil, false}, {"sales 0\nslip sold 0 0 -1 9 open\nslip credit 0 0 -1 9 open\nslip back 1 1 0 9 open\nslip back 2 2 1 9 open\n", []int{9, 9, 9, 9}, nil, []int{9, 9, 9, 9}, nil, true},
		{textFixed, []int{9, 5, 8, 6, 6}, []bool{true, true}, []int{6, 0, 8, 0, 6}, nil, true}, {textFixed, []int{9, 5, 8, 6, 6}, []bool{true, false}, []int{5, 0, 8, 0, 6}, nil, false},
		{textBare, nil, nil, nil, nil, true}, {textBare, []int{}, []bool{}, nil, nil, true}, {textKinds, []int{100, 51, 7, 20, 30, 31}, []bool{false}, []int{100, 51, 7, 20, 30, 0}, nil, true}, {textKinds, []int{100, 51, 7, 20, 30, 33}, []bool{true}, []int{100, 51, 7, 20, 33, 0}, nil, true},
	} {
		b := parse(t, x.text)
		now, wrong, l := sales.Play(b, x.numbers, x.signed)
		if !slices.Equal(now, x.now) || !slices.Equal(wrong, x.wrong) || l != api.Fine {
			t.Errorf("%q, %v, %v: %v, %v, bell %d, want %v, %v", x.text, x.numbers, x.signed, now, wrong, l, x.now, x.wrong)
		}
		if is, l := sales.IsHistory(b, x.numbers, x.signed); is != x.is || l != api.Fine {
			t.Errorf("%q, %v, %v: a history: %v, bell %d", x.text, x.numbers, x.signed, is, l)
		}
	}
}

// P6.1, P0.2: what was written has its bells, in this order, and nothing else with them.
func TestPlayBells(t *testing.T) {
	good, wrong := []int{20, 10, 5, 30}, []int{20, 10, 1000, 30}
	for _, text := range []string{textS, with("12 loose", "12 firm")} {
		b := parse(t, text)
		for _, x := range []struct {
			numbers []int
			signed  []bool
			want    api.Bell
		}{
			{good, []bool{true}, api.Fine}, {[]int{0, 0, 0, 999}, []bool{false}, api.Fine},
			{nil, []bool{true}, api.Count}, {good[:3], []bool{true}, api.Count}, {append(slices.Clone(good), 0), []bool{true}, api.Count}, {wrong[:3], nil, api.Count}, {make([]int, 1000000), nil, api.Count},
			{wrong, []bool{true}, api.Bound}, {wrong, nil, api.Bound}, {[]int{-1, 0, 0, 0}, []bool{true}, api.Bound}, {[]int{0, 0, 0, 1000}, []bool{true, true}, api.Bound}, {[]int{0, math.MaxInt, 0, 0}, []bool{true}, api.Bound}, {[]int{0, 0, math.MinInt, 0}, []bool{true}, api.Bound},
			{good, nil, api.Count}, {good, []bool{}, api.Count}, {good, []bool{false, true}, api.Count}, {good, make([]bool, 4), api.Count}, {good, make([]bool, 1000000), api.Count},
		} {
			got := playedWith(b, x.numbers, x.signed)
			if (got == playedAlone(x.want)) != (x.want != api.Fine) {
				t.Errorf("%q, %.40v, %.40v: %s, want the bell %d", text, x.numbers, x.signed, got, x.want)
			}
		}
	}
}

// P6.1: the histories of the books above, and what is so in them.
func TestHistories(t *testing.T) {
	const o, y, n = api.Open, api.Yes, api.No
	s := func(first []int, back ...int) [][]int { return [][]int{first, {10}, back, {0}} }
	for _, x := range []struct {
		text    string
		many    int
		amounts [][]int
		signed  map[int]api.Sure
	}{
		{textS, 4, s([]int{20, 21, 22}, 5, 6), map[int]api.Sure{3: n}},
		{with("sales 1", "sales 2"), 12, s([]int{20, 21, 22, 30}, 5, 6), map[int]api.Sure{3: o}},
		{with("12 loose", "10 loose"), 12, s([]int{20, 21, 22, 30}, 5, 6), map[int]api.Sure{3: o}},
		{with("15..16", "24"), 3, s([]int{30}, 6), map[int]api.Sure{3: y}},
		{with("15..16", "17..24"), 4, s([]int{22, 30}, 5, 6), map[int]api.Sure{3: o}},
		{with("30 open", "20..22 open"), 24, s([]int{20, 21, 22}, 5, 6), map[int]api.Sure{3: o}},
		{with("5..6", "30"), 0, nil, nil},
		{textFixed, 2, [][]int{{6, 7}, {0}, {8}, {0}, {6}}, map[int]api.Sure{1: y, 3: y}},
		{textBare, 1, nil, nil}, {textOdd, 0, nil, nil}, {textFirm, 0, nil, nil}, {textFalse, 0, nil, nil},
		// what is taken back narrows what was there
		{"sales 0\nslip sold 0 0 -1 4..6 open\nslip back 0 0 0 5..7 open\n", 3, [][]int{{5, 6}, {5, 6}}, nil},
		// a fix of no effect is written all the same
		{"sales 0\nslip sold 0 0 -1 4..6 open\nslip fix 0 0 0 1..3 yes\nslip fix 0 0 0 2 yes\n", 9, [][]int{{2}, {0}, {0}}, map[int]api.Sure{1: y, 2: y}},
		{"sales 0\nslip sold 0 0 -1 4 open\nslip fix 0 0 0 1..3 no\n", 3, [][]int{{4}, {0}}, map[int]api.Sure{1: n}},
	} {
		b := parse(t, x.text)
		if many, l := sales.Histories(b); many != x.many || l != api.Fine {
			t.Errorf("%q: %d histories, bell %d, want %d", x.text, many, l, x.many)
		}
		for i, want := range x.amounts {
			if v, l := sales.Amounts(b, i); !slices.Equal(v, want) || l != api.Fine {
				t.Errorf("%q: Amounts %d: %v, bell %d, want %v", x.text, i, v, l, want)
			}
		}
		for i, want := range x.signed {
			if v, l := sales.Signed(b, i); v != want || l != api.Fine {
				t.Errorf("%q: Signed %d: %d, bell %d, want %d", x.text, i, v, l, want)
			}
		}
	}
}

// P6.1: as many slips, numbers, fixes and sums as there can be.
func TestManyHistories(t *testing.T) {
	b := parse(t, textAll)
	b.Sums = nil
	if n, l := sales.Histories(b); n != 729*4 || l != api.Fine {
		t.Errorf("%d histories, bell %d", n, l)
	}
	b = parse(t, textAll)
	all := pasts(b)
	if n, l := sales.Histories(b); n != len(all) || n == 0 || l != api.Fine {
		t.Errorf("%d histories, bell %d, want %d", n, l, len(all))
	}
	toldLikeOracle(t, b, all)
	for i := range b.Sums {
		b.Sums[i].Firm = true
	}
	if n, l := sales.Histories(b); n != len(pasts(b)) || l != api.Fine {
		t.Errorf("%d firm histories, bell %d, want %d", n, l, len(pasts(b)))
	}
}

// P6.1: all histories, and what is told of slips, are those of the oracle.
func TestHistoriesLikeOracle(t *testing.T) {
	d := dice.Dice(2)
	none, open := 0, 0
	for i := range 600 {
		b, real := anyBook(&d, i%2 == 0)
		for _, p := range append(plays(b), real) {
			now, wrong, l := sales.Play(b, p.numbers, p.of(b))
			if !slices.Equal(now, p.now) || !slices.Equal(wrong, p.wrong) || l != api.Fine {
				t.Errorf("%+v: %v, %v, bell %d, want %v", b, now, wrong, l, p)
			}
			if d.Roll(10) > 0 {
				continue
			}
			if is, l := sales.IsHistory(b, p.numbers, p.of(b)); is != agrees(b, p) || l != api.Fine {
				t.Errorf("%+v, %v: a history: %v, bell %d", b, p, is, l)
			}
		}
		all := pasts(b)
		if n, l := sales.Histories(b); n != len(all) || l != api.Fine {
			t.Errorf("%+v: %d histories, bell %d, want %d", b, n, l, len(all))
		}
		if len(all) == 0 {
			none++
			continue
		}
		open += toldLikeOracle(t, b, all)
	}
	if none < 50 || open < 50 {
		t.Errorf("too few of something: %d without a history, %d open", none, open)
	}
}

// toldLikeOracle compares what is told of slips with the oracle, and returns how many things are open.
func toldLikeOracle(t *testing.T, b api.SalesBook, all []past) int {
	t.Helper()
	open := 0
	for i, s := range b.Slips {
		want := oracle.Numbers(all, func(p past) int { return p.now[i] })
		if v, l := sales.Amounts(b, i); !slices.Equal(v, want) || l != api.Fine {
			t.Errorf("%+v: Amounts %d: %v, bell %d, want %v", b, i, v, l, want)
		}
		if s.Kind != api.SalesFix {
			continue
		}
		sure := oracle.Sure(all, func(p past) bool { return p.signed[i] })
		if v, l := sales.Signed(b, i); v != sure || l != api.Fine {
			t.Errorf("%+v: Signed %d: %d, bell %d, want %d", b, i, v, l, sure)
		}
		if sure == api.Open {
			open++
		}
	}
	return open
}
