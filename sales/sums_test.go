package sales_test

import (
	"math"
	"slices"
	"strings"
	"testing"

	"nosale/api"
	"nosale/dice"
	"nosale/oracle"
	"nosale/sales"
)

// P6.2: Sum tells what each kind of sums amounts to: what each kind of slips adds, and takes away, and where.
func TestSumOfEachKind(t *testing.T) {
	b := parse(t, "sales 0\nslip sold 1 1 -1 500 open\nslip credit 2 2 -1 100 open\nslip given 3 3 -1 70 open\nslip back 4 0 0 5 open\nslip back 3 3 1 30 open\nslip paid 0 2 -1 900 open\n")
	want := map[api.SalesSum]int{
		sum(api.SalesCash, 0, 0, 0): 500 + 900 - 5 - 30,
		sum(api.SalesDept, 0, 0, 0): 0, sum(api.SalesDept, 1, 0, 0): 500, sum(api.SalesDept, 2, 0, 0): 100, sum(api.SalesDept, 3, 0, 0): 70 - 30, sum(api.SalesDept, 4, 0, 0): -5,
		sum(api.SalesClerk, 0, 0, 0): -5, sum(api.SalesClerk, 1, 0, 0): 500, sum(api.SalesClerk, 2, 0, 0): 100, sum(api.SalesClerk, 3, 0, 0): -30,
		sum(api.SalesDebt, 0, 0, 0): 100 - 900, sum(api.SalesGifts, 0, 0, 0): 70,
	}
	if len(want) != len(things()) {
		t.Fatal("some sums are not looked at")
	}
	for s, n := range want {
		if got, l := sales.Sum(b, s.Kind, s.A); got != to(n, n) || l != api.Fine {
			t.Errorf("Sum %d of %d: %v, bell %d, want %d", s.Kind, s.A, got, l, n)
		}
	}
	for _, x := range [][2]int{{0, 1}, {0, -1}, {1, 5}, {1, -1}, {2, 4}, {2, -1}, {3, 1}, {3, math.MinInt}, {4, 1}, {4, math.MaxInt}, {5, 0}, {-1, 0}, {math.MaxInt, 0}, {math.MinInt, 0}} {
		if got, l := sales.Sum(b, api.SalesSumKind(x[0]), x[1]); got != (api.Span{}) || l != api.Bound {
			t.Errorf("Sum %d of %d: %v, bell %d", x[0], x[1], got, l)
		}
	}
}

// P6.2: Sum tells the least and the greatest number in histories; False whether a sum is false in them.
func TestSums(t *testing.T) {
	const o, y, n = api.Open, api.Yes, api.No
	for _, x := range []struct {
		text             string
		cash, dept, debt api.Span
		wrong            []api.Sure
	}{
		{textS, to(15, 16), to(25, 26), to(10, 10), []api.Sure{n, y}},
		{with("sales 1", "sales 2"), to(14, 25), to(24, 35), to(10, 10), []api.Sure{o, y}},
		{with("12 loose", "10 loose"), to(14, 25), to(24, 35), to(10, 10), []api.Sure{o, n}},
		{with("15..16 loose\nsum clerk 1 12", "99 loose\nsum gifts 0 0"), to(14, 25), to(24, 35), to(10, 10), []api.Sure{y, n}},
		{textFixed, to(0, 1), to(0, 0), to(8, 8), nil},
		{textBare, to(0, 0), to(0, 0), to(0, 0), nil},
		{textKinds, to(110, 113), to(0, 0), to(17, 22), []api.Sure{n, n, n, n, n}},
	} {
		b := parse(t, x.text)
		cash, l := sales.Sum(b, api.SalesCash, 0)
		dept, l2 := sales.Sum(b, api.SalesDept, 1)
		debt, l3 := sales.Sum(b, api.SalesDebt, 0)
		if cash != x.cash || dept != x.dept || debt != x.debt || l+l2+l3 != api.Fine {
			t.Errorf("%q: %v, %v, %v, bells %d, %d, %d", x.text, cash, dept, debt, l, l2, l3)
		}
		for i, want := range x.wrong {
			if v, l := sales.False(b, i); v != want || l != api.Fine {
				t.Errorf("%q: False %d: %d, bell %d, want %d", x.text, i, v, l, want)
			}
		}
		for _, i := range []int{-1, len(b.Sums), math.MaxInt, math.MinInt} {
			if v, l := sales.False(b, i); v != api.Open || l != api.Missing {
				t.Errorf("%q: False %d: %d, bell %d", x.text, i, v, l)
			}
		}
	}
}

// P6.2: Fewest tells the fewest sums that are false, whatever Most is; none that is firm.
func TestFewest(t *testing.T) {
	// either of the sums can be the only one that is false, or both, but not none
	const either = "sales 2\nslip sold 1 1 -1 5..6 open\nsum cash 0 5 loose\nsum dept 1 6 loose\nsum clerk 1 5..6 loose\n"
	for _, x := range []struct {
		text string
		want []int
		l    api.Bell
	}{
		{textS, []int{1}, api.Fine}, {with("sales 1", "sales 0"), []int{1}, api.Fine}, {with("sales 1", "sales 2"), []int{1}, api.Fine}, {with("12 loose", "10 loose"), nil, api.Fine}, {with("12 loose", "12 firm"), nil, api.Odds}, {with("30 open", "30 yes"), []int{0, 1}, api.Fine}, {with("16 loose", "16 firm"), []int{1}, api.Fine}, {strings.Replace(with("30 open", "30 yes"), "16 loose", "16 firm", 1), nil, api.Odds},
		// no more is taken back than there was
		{with("5..6", "40"), nil, api.Odds}, {textOdd, nil, api.Odds}, {strings.Replace(with("5..6 open", "25 open"), "15..16", "0..9", 1), []int{1}, api.Fine}, {strings.Replace(with("5..6 open", "25 open"), "15..16", "-5..-3", 1), []int{0, 1}, api.Fine},
		{textFirm, nil, api.Odds}, {textFalse, []int{0, 1}, api.Fine}, {textBare, nil, api.Fine}, {textKinds, nil, api.Fine}, {textFixed, nil, api.Fine},
		{either, []int{0}, api.Fine}, {strings.Replace(either, "sales 2", "sales 0", 1), []int{0}, api.Fine}, {strings.Replace(either, "5 loose", "5 firm", 1), []int{1}, api.Fine}, {strings.Replace(either, "6 loose", "6 firm", 1), []int{0}, api.Fine}, {strings.ReplaceAll(either, "loose", "firm"), nil, api.Odds}, {strings.Replace(either, "5..6 open", "5 open", 1), []int{1}, api.Fine}, {strings.Replace(either, "1 5..6 loose", "1 7 loose", 1), []int{0, 2}, api.Fine},
		// as many as there can be, and more than Most ever is
		{"sales 0\nslip given 0 0 -1 1 open\nsum cash 0 1 loose\nsum dept 0 0 loose\nsum clerk 0 1 loose\nsum debt 0 1 loose\nsum gifts 0 0 loose\n", []int{0, 1, 2, 3, 4}, api.Fine},
	} {
		if v, l := sales.Fewest(parse(t, x.text)); !slices.Equal(v, x.want) || l != x.l {
			t.Errorf("%q: %v, bell %d, want %v, %d", x.text, v, l, x.want, x.l)
		}
	}
}

// P6.2: Ask tells the slip whose amount now leaves the fewest histories.
func TestAsk(t *testing.T) {
	for _, x := range []struct {
		text       string
		slip, left int
		l          api.Bell
	}{
		{textS, 0, 2, api.Fine}, {with("20..22", "21"), 2, 1, api.Fine}, {with("5..6", "5"), 0, 1, api.Fine}, {with("sales 1", "sales 2"), 0, 6, api.Fine}, {with("sales 1", "sales 0"), 0, 0, api.Odds},
		{with("20..22 open\nslip credit 1 1 -1 10 open\nslip back 1 0 0 5..6", "21 open\nslip credit 1 1 -1 10 open\nslip back 1 0 0 5"), -1, 1, api.Fine},
		{textBare, -1, 1, api.Fine}, {textFixed, 0, 1, api.Fine}, {textOdd, 0, 0, api.Odds}, {textFirm, 0, 0, api.Odds}, {textFalse, 0, 0, api.Odds},
		// the amount now is asked for, not what was written
		{"sales 0\nslip sold 0 0 -1 4..6 open\nslip fix 0 0 0 2 yes\n", -1, 3, api.Fine}, {"sales 0\nslip sold 0 0 -1 4..6 open\nslip fix 0 0 0 2 open\n", 0, 3, api.Fine}, {"sales 0\nslip sold 0 0 -1 4..6 open\nslip fix 0 0 0 1..3 no\n", 0, 3, api.Fine},
		// the first one of several
		{"sales 0\nslip sold 0 0 -1 1 open\nslip given 0 0 -1 4..5 open\nslip sold 0 0 -1 6..7 open\n", 1, 2, api.Fine}, {"sales 0\nslip given 0 0 -1 4..5 open\nslip sold 0 0 -1 6..8 open\n", 1, 2, api.Fine},
	} {
		if slip, left, l := sales.Ask(parse(t, x.text)); slip != x.slip || left != x.left || l != x.l {
			t.Errorf("%q: %d, %d, bell %d, want %d, %d, %d", x.text, slip, left, l, x.slip, x.left, x.l)
		}
	}
}

// P6.2: all sums, which are false, the fewest, and what is to be asked, are those of the oracle.
func TestSumsLikeOracle(t *testing.T) {
	d := dice.Dice(3)
	fewest, wrong, asked := map[int]int{}, map[api.Sure]int{}, map[int]int{}
	for i := range 600 {
		b, _ := anyBook(&d, i%2 == 0)
		list, found := fewestOf(b)
		bell := api.Odds
		if found {
			bell = api.Fine
			fewest[len(list)]++
		}
		if v, l := sales.Fewest(b); !slices.Equal(v, list) || l != bell {
			t.Errorf("%+v: Fewest: %v, bell %d, want %v, %d", b, v, l, list, bell)
		}
		all := pasts(b)
		if len(all) == 0 {
			continue
		}
		for _, s := range things() {
			want := spanOf(b, all, s.Kind, s.A)
			if v, l := sales.Sum(b, s.Kind, s.A); v != want || l != api.Fine {
				t.Errorf("%+v: Sum %d of %d: %v, bell %d, want %v", b, s.Kind, s.A, v, l, want)
			}
		}
		for i := range b.Sums {
			want := oracle.Sure(all, func(p past) bool { return slices.Contains(p.wrong, i) })
			if v, l := sales.False(b, i); v != want || l != api.Fine {
				t.Errorf("%+v: False %d: %d, bell %d, want %d", b, i, v, l, want)
			}
			wrong[want]++
		}
		slip, left := askOf(b, all)
		if v, n, l := sales.Ask(b); v != slip || n != left || l != api.Fine {
			t.Errorf("%+v: Ask: %d, %d, bell %d, want %d, %d", b, v, n, l, slip, left)
		}
		asked[slip]++
	}
	if fewest[0] < 100 || fewest[1] < 50 || fewest[2] < 10 || wrong[api.Open] < 50 || wrong[api.Yes] < 50 || wrong[api.No] < 100 || len(asked) < 5 {
		t.Errorf("too few of something: %v, %v, %v", fewest, wrong, asked)
	}
}
