package change_test

import (
	"math"
	"slices"
	"testing"

	"nosale/api"
	"nosale/change"
	"nosale/dice"
)

// bookOf returns a book with these kinds, an empty drawer and no sales.
func bookOf(kinds ...int) api.ChangeBook {
	return api.ChangeBook{Kinds: kinds, Drawer: make([]api.Span, len(kinds))}
}

// coinCases are coins that are handed in to the book D, and their bells.
func coinCases() map[api.Bell][][]int {
	return map[api.Bell][][]int{
		api.Fine:  {{0, 0, 0}, {30, 0, 1}, {30, 30, 30}},
		api.Count: {nil, {1}, {1, 1}, {1, 1, 1, 1}, {31, 31}, make([]int, 1000)},
		api.Bound: {{31, 0, 0}, {0, 0, 31}, {0, -1, 0}, {math.MaxInt, 0, 0}, {0, 0, math.MinInt}},
	}
}

// P4.1: Amount returns what coins amount to.
func TestAmount(t *testing.T) {
	for _, x := range []struct {
		kinds, coins []int
		want         int
	}{
		{[]int{4, 2, 1}, []int{1, 1, 1}, 7}, {[]int{4, 2, 1}, []int{0, 0, 0}, 0}, {[]int{4, 2, 1}, []int{30, 30, 30}, 210}, {[]int{4, 2, 1}, []int{0, 3, 0}, 6}, {[]int{5}, []int{7}, 35}, {[]int{500, 499, 498, 497}, []int{30, 30, 30, 30}, 59820},
	} {
		if n, l := change.Amount(bookOf(x.kinds...), x.coins); n != x.want || l != api.Fine {
			t.Errorf("%v of %v: %d, bell %d, want %d", x.coins, x.kinds, n, l, x.want)
		}
	}
}

// P4.1, P0.2: coins that are handed in have Count before Bound, and both before the bell of an amount.
func TestCoinsHandedIn(t *testing.T) {
	b := parse(t, textD)
	for want, all := range coinCases() {
		for _, coins := range all {
			for _, n := range []int{0, 1, -1, 99, 100, 999, 1000, math.MaxInt} {
				within := func(most int) api.Bell {
					if want == api.Fine && (n < 0 || n > most) {
						return api.Bound
					}
					return want
				}
				amount, l := change.Amount(b, coins)
				if l != want || l != api.Fine && amount != 0 {
					t.Errorf("Amount of %v: %d, bell %d", coins, amount, l)
				}
				given, found, l := change.Give(b, coins, n)
				if l != within(999) || l != api.Fine && (found || len(given) > 0) {
					t.Errorf("Give %d out of %v: %v, %v, bell %d", n, coins, given, found, l)
				}
				cannot, l := change.Cannot(b, coins, n)
				if l != within(99) || l != api.Fine && len(cannot) > 0 {
					t.Errorf("Cannot %d out of %v: %v, bell %d", n, coins, cannot, l)
				}
				in, out, found, l := change.Swap(b, coins, n)
				if l != within(99) || l != api.Fine && (found || len(in)+len(out) > 0) {
					t.Errorf("Swap %v for %d: %v, %v, %v, bell %d", coins, n, in, out, found, l)
				}
			}
		}
	}
}

// P4.1: Give returns the fewest coins, and of several ways the one with more coins of the first kind in which they differ.
func TestGive(t *testing.T) {
	for _, x := range []struct {
		kinds, coins []int
		amount       int
		want         []int
	}{
		{[]int{4, 2, 1}, []int{2, 1, 1}, 6, []int{1, 1, 0}}, {[]int{4, 2, 1}, []int{1, 0, 1}, 2, nil}, {[]int{4, 2, 1}, []int{1, 0, 1}, 0, []int{0, 0, 0}}, {[]int{4, 2, 1}, []int{0, 0, 0}, 0, []int{0, 0, 0}}, {[]int{4, 2, 1}, []int{0, 0, 0}, 1, nil}, {[]int{4, 2, 1}, []int{1, 1, 1}, 7, []int{1, 1, 1}}, {[]int{4, 2, 1}, []int{1, 1, 1}, 8, nil}, {[]int{4, 2, 1}, []int{30, 30, 30}, 210, []int{30, 30, 30}}, {[]int{4, 2, 1}, []int{30, 30, 30}, 999, nil},
		// the greatest coin does not lead to the fewest ones
		{[]int{6, 4, 1}, []int{1, 2, 2}, 8, []int{0, 2, 0}}, {[]int{6, 4, 1}, []int{1, 1, 2}, 8, []int{1, 0, 2}}, {[]int{30, 25, 1}, []int{2, 2, 30}, 50, []int{0, 2, 0}}, {[]int{30, 25, 1}, []int{2, 1, 30}, 50, []int{1, 0, 20}},
		// the greatest coin leads to nothing
		{[]int{5, 3}, []int{1, 2}, 6, []int{0, 2}}, {[]int{7, 5, 3}, []int{1, 1, 3}, 9, []int{0, 0, 3}}, {[]int{7, 5, 3}, []int{1, 1, 2}, 9, nil},
		// as many coins: 6+2 or 4+4; 10+2+2 or 8+3+3 or 6+4+4
		{[]int{6, 4, 2}, []int{1, 2, 1}, 8, []int{1, 0, 1}}, {[]int{10, 6, 4, 2}, []int{1, 1, 2, 2}, 14, []int{1, 0, 1, 0}}, {[]int{10, 6, 4, 2}, []int{1, 2, 2, 2}, 12, []int{1, 0, 0, 1}}, {[]int{10, 6, 5, 1}, []int{1, 1, 2, 2}, 12, []int{1, 0, 0, 2}}, {[]int{9, 5, 4, 1}, []int{2, 9, 9, 0}, 18, []int{2, 0, 0, 0}}, {[]int{9, 5, 4, 1}, []int{1, 9, 9, 0}, 18, []int{1, 1, 1, 0}}, {[]int{8, 7, 3, 2}, []int{1, 1, 1, 1}, 10, []int{1, 0, 0, 1}}, {[]int{8, 7, 3, 2}, []int{0, 1, 1, 1}, 10, []int{0, 1, 1, 0}},
		{[]int{5}, []int{3}, 15, []int{3}}, {[]int{5}, []int{2}, 15, nil}, {[]int{5}, []int{3}, 7, nil}, {[]int{333}, []int{30}, 999, []int{3}}, {[]int{500, 499, 498, 497}, []int{30, 30, 30, 30}, 999, []int{1, 1, 0, 0}}, {[]int{500, 498, 496, 494}, []int{30, 30, 30, 30}, 999, nil}, {[]int{4, 3, 2, 1}, []int{30, 30, 30, 30}, 300, []int{30, 30, 30, 30}},
	} {
		v, found, l := change.Give(bookOf(x.kinds...), x.coins, x.amount)
		if !slices.Equal(v, x.want) || found != (x.want != nil) || l != api.Fine {
			t.Errorf("%d out of %v of %v: %v, %v, bell %d, want %v", x.amount, x.coins, x.kinds, v, found, l, x.want)
		}
	}
}

// P4.1: Cannot returns the amounts for which there is no change.
func TestCannot(t *testing.T) {
	for _, x := range []struct {
		kinds, coins []int
		most         int
		want         []int
	}{
		{[]int{4, 2, 1}, []int{1, 0, 1}, 6, []int{2, 3, 6}}, {[]int{4, 2, 1}, []int{1, 0, 1}, 5, []int{2, 3}}, {[]int{4, 2, 1}, []int{0, 1, 2}, 7, []int{5, 6, 7}}, {[]int{4, 2, 1}, []int{1, 1, 1}, 7, nil}, {[]int{4, 2, 1}, []int{1, 1, 1}, 8, []int{8}}, {[]int{4, 2, 1}, []int{0, 0, 0}, 0, nil}, {[]int{4, 2, 1}, []int{0, 0, 0}, 3, []int{1, 2, 3}}, {[]int{4, 2, 1}, []int{30, 30, 30}, 99, nil}, {[]int{5, 3}, []int{1, 3}, 14, []int{1, 2, 4, 7, 10, 12, 13}}, {[]int{100}, []int{30}, 3, []int{1, 2, 3}}, {[]int{99, 1}, []int{1, 2}, 5, []int{3, 4, 5}}, {[]int{1}, []int{30}, 32, []int{31, 32}},
	} {
		if v, l := change.Cannot(bookOf(x.kinds...), x.coins, x.most); !slices.Equal(v, x.want) || l != api.Fine {
			t.Errorf("%v of %v up to %d: %v, bell %d, want %v", x.coins, x.kinds, x.most, v, l, x.want)
		}
	}
	// the limit itself
	list, l := change.Cannot(bookOf(98), []int{1}, api.MaxChangeAmount)
	if len(list) != 98 || slices.Contains(list, 98) || list[97] != 99 || l != api.Fine {
		t.Errorf("up to the limit: %v, bell %d", list, l)
	}
}

// P4.1: Swap returns the fewest coins of the bank, then the least list of them, then the least list of those that it gets.
func TestSwap(t *testing.T) {
	for _, x := range []struct {
		kinds, coins []int
		most         int
		in, out      []int
	}{
		{[]int{4, 2, 1}, []int{1, 0, 1}, 3, []int{0, 2, 0}, []int{1, 0, 0}}, {[]int{4, 2, 1}, []int{0, 2, 0}, 1, []int{0, 0, 2}, []int{0, 1, 0}}, {[]int{4, 2, 1}, []int{2, 0, 0}, 8, []int{0, 1, 2}, []int{1, 0, 0}},
		// nothing is to be done
		{[]int{4, 2, 1}, []int{1, 1, 1}, 7, []int{0, 0, 0}, []int{0, 0, 0}}, {[]int{4, 2, 1}, []int{0, 0, 0}, 0, []int{0, 0, 0}, []int{0, 0, 0}}, {[]int{5}, []int{0}, 0, []int{0}, []int{0}},
		// nothing can be done: too little money, too many coins
		{[]int{4, 2, 1}, []int{0, 0, 1}, 2, nil, nil}, {[]int{4, 2, 1}, []int{1, 1, 1}, 8, nil, nil}, {[]int{5}, []int{9}, 1, nil, nil}, {[]int{6, 1}, []int{2, 0}, 2, nil, nil}, {[]int{4, 1}, []int{2, 0}, 4, []int{0, 4}, []int{1, 0}}, {[]int{5, 1}, []int{2, 0}, 4, nil, nil},
		// two coins to get, and a greater one to give
		{[]int{6, 4, 1}, []int{0, 2, 0}, 2, []int{1, 0, 2}, []int{0, 2, 0}}, {[]int{3, 2, 1}, []int{0, 3, 0}, 3, []int{0, 0, 2}, []int{0, 1, 0}}, {[]int{5, 3, 1}, []int{1, 0, 1}, 3, []int{0, 1, 2}, []int{1, 0, 0}},
		// of several lists to give the least one: 4+1+1, or 6+1+1 for 4+4
		{[]int{6, 4, 1}, []int{1, 2, 1}, 2, []int{0, 1, 2}, []int{1, 0, 0}}, {[]int{4, 3, 2, 1}, []int{2, 0, 0, 0}, 1, []int{0, 1, 0, 1}, []int{1, 0, 0, 0}},
		// of several lists to get the least one: 5+5 or 10
		{[]int{10, 8, 5, 1}, []int{1, 0, 2, 0}, 2, []int{0, 1, 0, 2}, []int{0, 0, 2, 0}}, {[]int{10, 8, 5, 1}, []int{1, 0, 1, 0}, 2, []int{0, 1, 0, 2}, []int{1, 0, 0, 0}},
		{[]int{6, 3, 2, 1}, []int{0, 2, 2, 0}, 2, []int{0, 0, 0, 2}, []int{0, 0, 1, 0}}, {[]int{5, 4, 3, 1}, []int{0, 1, 1, 0}, 1, []int{0, 0, 1, 1}, []int{0, 1, 0, 0}},
		// nothing is to be given for 0, whatever the bank has
		{[]int{7, 5, 4, 2}, []int{0, 2, 0, 2}, 0, []int{0, 0, 0, 0}, []int{0, 0, 0, 0}}, {[]int{5, 2}, []int{0, 5}, 1, nil, nil},
	} {
		in, out, found, l := change.Swap(bookOf(x.kinds...), x.coins, x.most)
		if !slices.Equal(in, x.in) || !slices.Equal(out, x.out) || found != (x.in != nil) || l != api.Fine {
			t.Errorf("%v of %v up to %d: %v for %v, %v, bell %d, want %v, %v", x.coins, x.kinds, x.most, in, out, found, l, x.in, x.out)
		}
	}
}

// P4.1: all coins, amounts and swaps are those of the oracle.
func TestCoinsLikeOracle(t *testing.T) {
	d := dice.Dice(1)
	gaps, ties, swaps := 0, 0, map[int]int{}
	for range 2500 {
		kinds := anyKinds(&d)
		b := bookOf(kinds...)
		coins := anyCoins(&d, len(kinds), 1+d.Roll(5))
		if n, l := change.Amount(b, coins); n != worth(kinds, coins) || l != api.Fine {
			t.Errorf("%v of %v: %d, bell %d", coins, kinds, n, l)
		}
		amount := min(api.MaxChangePrice, d.Roll(worth(kinds, coins)+3))
		if d.Roll(3) > 0 {
			// an amount that coins have
			some := added(coins, anyCoins(&d, len(kinds), 2), -1)
			amount = min(api.MaxChangePrice, max(0, worth(kinds, some)))
		}
		all := ways(kinds, coins, amount)
		if len(all) > 0 {
			least := sum(given(kinds, coins, amount))
			if len(slices.DeleteFunc(all, func(list []int) bool { return sum(list) != least })) > 1 {
				ties++
			}
		}
		want := given(kinds, coins, amount)
		if v, found, l := change.Give(b, coins, amount); !slices.Equal(v, want) || found != (want != nil) || l != api.Fine {
			t.Errorf("%d out of %v of %v: %v, %v, bell %d, want %v", amount, coins, kinds, v, found, l, want)
		}
		most := d.Roll(api.MaxChangeAmount + 1)
		list := cannotOf(kinds, coins, most)
		if len(list) > 0 {
			gaps++
		}
		if v, l := change.Cannot(b, coins, most); !slices.Equal(v, list) || l != api.Fine {
			t.Errorf("%v of %v up to %d: %v, bell %d, want %v", coins, kinds, most, v, l, list)
		}
		if d.Roll(3) == 0 {
			swaps[oneSwap(t, kinds, coins, d.Roll(min(10, api.MaxChangeAmount)))]++
		}
	}
	if gaps < 500 || ties < 20 || swaps[-1] < 50 || swaps[0] < 50 || swaps[1]+swaps[2]+swaps[3]+swaps[4] < 20 {
		t.Errorf("too few of something: %d gaps, %d ties, swaps %v", gaps, ties, swaps)
	}
}

// oneSwap compares a swap with that of the oracle, and returns how many coins the bank gives, -1 if there is none.
func oneSwap(t *testing.T, kinds, coins []int, most int) int {
	t.Helper()
	in, out, found := swapOf(kinds, coins, most)
	v, w, is, l := change.Swap(bookOf(kinds...), coins, most)
	if !slices.Equal(v, in) || !slices.Equal(w, out) || is != found || l != api.Fine {
		t.Errorf("%v of %v up to %d: %v for %v, %v, bell %d, want %v, %v", coins, kinds, most, v, w, is, l, in, out)
	}
	if !found {
		return -1
	}
	return sum(in)
}
