package change_test

import (
	"math"
	"slices"
	"strings"
	"testing"

	"nosale/api"
	"nosale/change"
	"nosale/dice"
	"nosale/oracle"
)

// P0.1: each function returns, whatever it is called with, and returns the same to several goroutines; it changes nothing.
func TestAlwaysTheSame(t *testing.T) {
	d := dice.Dice(6)
	books := []api.ChangeBook{{}}
	for _, text := range texts() {
		books = append(books, parse(t, text))
	}
	for i, x := range bellCases() {
		b := parse(t, textD)
		x.change(&b)
		if x.want != api.Fine || i%5 == 0 {
			books = append(books, b)
		}
	}
	for i := range 10 {
		b, _ := anyBook(&d, i%2 == 0)
		books = append(books, b)
	}
	layer().AlwaysTheSame(t, report, books...)
}

// P0.1: numbers that are very great or very small, and slices that are very long, have a bell.
func TestGarbage(t *testing.T) {
	d := dice.Dice(7)
	odd := []int{math.MinInt, -1, 0, 0, 1, 1, 2, 3, 5, 9, 30, 500, math.MaxInt}
	some := func() int { return odd[d.Roll(len(odd))] }
	list := func() []int {
		var list []int
		for range d.Roll(5) {
			list = append(list, some())
		}
		return list
	}
	for range 200 {
		b, _ := anyBook(&d, true)
		if d.Roll(2) == 0 {
			b.Kinds = list()
		}
		for range d.Roll(3) {
			b.Drawer = append(b.Drawer, to(some(), some()))
		}
		for range d.Roll(3) {
			b.Sales = append(b.Sales, api.ChangeSale{Price: some(), Paid: list(), Seen: api.Sure(some())})
		}
		for range d.Roll(3) {
			b.Firsts = append(b.Firsts, first(some(), some()))
		}
		for range d.Roll(3) {
			b.Counts = append(b.Counts, count(some(), some(), some()))
		}
		report(b)
	}
	for i, grow := range []func(b *api.ChangeBook){
		func(b *api.ChangeBook) { b.Kinds = make([]int, 1000000) },
		func(b *api.ChangeBook) { b.Drawer = make([]api.Span, 1000000) },
		func(b *api.ChangeBook) { b.Sales = make([]api.ChangeSale, 1000000) },
		func(b *api.ChangeBook) { b.Sales[0].Paid = make([]int, 1000000) },
		func(b *api.ChangeBook) { b.Firsts = make([]api.ChangeFirst, 1000000) },
		func(b *api.ChangeBook) { b.Counts = make([]api.ChangeCount, 1000000) },
	} {
		b := parse(t, textD)
		grow(&b)
		if _, l := change.Histories(b); l != api.Count {
			t.Errorf("a million, %d: bell %d", i, l)
		}
	}
	b := parse(t, textD)
	if _, l := change.Amount(b, make([]int, 1000000)); l != api.Count {
		t.Errorf("a million coins: bell %d", l)
	}
	if _, _, l := change.Play(b, []int{0, 1, 1}, make([]int, 1000000)); l != api.Count {
		t.Errorf("a million sales: bell %d", l)
	}
}

// R3: it makes no difference whether a slice is nil or empty.
func TestNilOrEmpty(t *testing.T) {
	none, empty := parse(t, textBare), parse(t, textBare)
	none.Sales, none.Firsts, none.Counts = nil, nil, nil
	empty.Sales, empty.Firsts, empty.Counts = []api.ChangeSale{}, []api.ChangeFirst{}, []api.ChangeCount{}
	if report(empty) != report(none) {
		t.Error("empty slices and none make a difference")
	}
	none.Kinds, none.Drawer = nil, nil
	empty.Kinds, empty.Drawer = []int{}, []api.Span{}
	if report(empty) != report(none) {
		t.Error("empty kinds and none make a difference")
	}
	b := parse(t, textBare)
	for _, order := range [][]int{nil, {}} {
		if is, l := change.IsHistory(b, []int{1}, order); !is || l != api.Fine {
			t.Errorf("no sales: %v, bell %d", is, l)
		}
	}
}

// R4: books that are returned share no memory with those that are handed in.
func TestNoSharedMemory(t *testing.T) {
	spoil := func(b api.ChangeBook) {
		b.Kinds[0], b.Drawer[0] = 77, to(7, 7)
		for i := range b.Sales {
			b.Sales[i].Price, b.Sales[i].Paid[0] = 77, 77
		}
		for i := range b.Firsts {
			b.Firsts[i].Before = 77
		}
		for i := range b.Counts {
			b.Counts[i].Kind = 77
		}
	}
	const more = textD + "first 0 2\ncount 0 1..2\n"
	news := func(b api.ChangeBook) []api.ChangeBook {
		seen, l := change.See(b, 2, true)
		known, l2 := change.Know(b, first(0, 1))
		noted, l3 := change.Note(b, count(2, 1, 2))
		if l+l2+l3 != api.Fine {
			t.Fatal(l, l2, l3)
		}
		return []api.ChangeBook{seen, known, noted}
	}
	b := parse(t, more)
	// room behind the elements must not be written to
	b.Firsts = append(make([]api.ChangeFirst, 0, 9), b.Firsts...)
	b.Counts = append(make([]api.ChangeCount, 0, 9), b.Counts...)
	firsts, counts := b.Firsts[:2], b.Counts[:2]
	for _, o := range news(b) {
		spoil(o)
	}
	if text, _ := change.Print(b); text != more || firsts[1] != first(0, 0) || counts[1] != count(0, 0, 0) {
		t.Errorf("a result shares memory with the book: %q, %v, %v", text, firsts, counts)
	}
	all := news(b)
	spoil(b)
	for i, want := range []string{strings.Replace(more, "0+0+1 open", "0+0+1 went", 1), strings.Replace(more, "count", "first 0 1\ncount", 1), more + "count 2 1..2\n"} {
		if text, _ := change.Print(all[i]); text != want {
			t.Errorf("the book shares memory with a result: %q", text)
		}
	}
}

// R4: coins that are returned share no memory with those that are handed in, nor with each other.
func TestNoSharedCoins(t *testing.T) {
	b := parse(t, textD)
	coins, order := []int{1, 1, 1}, []int{2, 1, 0}
	given, _, l := change.Give(b, coins, 7)
	in, out, _, l2 := change.Swap(b, coins, 3)
	_, after, l3 := change.Play(b, coins, order)
	best, _, l4 := change.Best(b)
	if l+l2+l3+l4 != api.Fine {
		t.Fatal(l, l2, l3, l4)
	}
	for _, list := range [][]int{given, in, after, best} {
		for i := range list {
			list[i] = 77
		}
	}
	if show(coins, order, out) != show([]int{1, 1, 1}, []int{2, 1, 0}, []int{0, 0, 0}) || change.CheckBook(b) != api.Fine {
		t.Errorf("coins share memory: %v, %v, %v", coins, order, out)
	}
}

// P4.6, P0.4: what really happened is a history, and is among all that is told.
func TestWhatReallyHappened(t *testing.T) {
	d := dice.Dice(8)
	for range 500 {
		b, real := anyBook(&d, false)
		if is, l := change.IsHistory(b, real.first, real.order); !is || l != api.Fine {
			t.Fatalf("%+v: what happened is no history: %v, bell %d", b, real, l)
		}
		has := func(name string, list []int, l api.Bell, n int) {
			t.Helper()
			if !slices.Contains(list, n) || l != api.Fine {
				t.Errorf("%+v, %v: %s is %v without %d, bell %d", b, real, name, list, n, l)
			}
		}
		for k := range b.Kinds {
			had, l := change.Had(b, k)
			has("Had", had, l, real.first[k])
			left, l := change.Left(b, k)
			has("Left", left, l, real.last[k])
		}
		so := map[bool]api.Sure{true: api.Yes, false: api.No}
		for i, s := range b.Sales {
			if sure, l := change.Goes(b, i); sure != api.Open && sure != so[real.went(i)] || l != api.Fine {
				t.Errorf("%+v, %v: Goes %d: %d, bell %d", b, real, i, sure, l)
			}
			if _, l := change.See(b, i, real.went(i)); s.Seen == api.Open && l != api.Fine {
				t.Errorf("%+v, %v: the sale %d cannot be seen, bell %d", b, real, i, l)
			}
		}
		if sure, l := change.Runs(b); sure != api.Open && sure != so[len(real.refused) > 0] || l != api.Fine {
			t.Errorf("%+v, %v: Runs: %d, bell %d", b, real, sure, l)
		}
		if list, l := change.Clash(b); len(list) > 0 || l != api.Fine {
			t.Errorf("%+v: what really happened clashes: %v, bell %d", b, list, l)
		}
	}
}

// P4.7: each number that is told is that of a history, and no other one is; each thing that is open is so in one, and not in another one.
func TestReached(t *testing.T) {
	d := dice.Dice(9)
	for i := range 300 {
		b, _ := anyBook(&d, i%2 == 0)
		if n, _ := change.Histories(b); n == 0 {
			continue
		}
		if len(b.Counts) == api.MaxChangeCounts {
			b.Counts = b.Counts[1:]
		}
		bell := func(so bool) api.Bell {
			if so {
				return api.Fine
			}
			return api.Odds
		}
		for k := range b.Kinds {
			had, _ := change.Had(b, k)
			for n := b.Drawer[k].Low; n <= b.Drawer[k].High; n++ {
				o := clone(b)
				o.Drawer[k] = to(n, n)
				if many, _ := change.Histories(o); slices.Contains(had, n) != (many > 0) {
					t.Errorf("%+v: Had %d is %v, but %d has %d histories", b, k, had, n, many)
				}
			}
			left, _ := change.Left(b, k)
			for n := range api.MaxChangeCount + 1 {
				if _, l := change.Note(b, count(k, n, n)); l != bell(slices.Contains(left, n)) {
					t.Errorf("%+v: Left %d is %v, but %d is noted with bell %d", b, k, left, n, l)
				}
			}
		}
		for i, s := range b.Sales {
			sure, _ := change.Goes(b, i)
			if s.Seen != api.Open {
				if sure != s.Seen {
					t.Errorf("%+v: Goes %d is %d", b, i, sure)
				}
				continue
			}
			_, went := change.See(b, i, true)
			_, refused := change.See(b, i, false)
			if went != bell(sure != api.No) || refused != bell(sure != api.Yes) {
				t.Errorf("%+v: Goes %d is %d, but it is seen with bells %d, %d", b, i, sure, went, refused)
			}
		}
	}
}

// P4.8: change is of its amount, out of what is there, and no other has fewer coins; more coins of a kind never take an amount away.
func TestFewestCoins(t *testing.T) {
	d := dice.Dice(10)
	for range 600 {
		kinds := anyKinds(&d)
		b, coins := bookOf(kinds...), anyCoins(&d, len(kinds), 5)
		amount := min(api.MaxChangePrice, worth(kinds, anyCoins(&d, len(kinds), 4)))
		v, found, l := change.Give(b, coins, amount)
		if l != api.Fine {
			t.Fatal(l)
		}
		if found {
			if n, _ := change.Amount(b, v); n != amount {
				t.Errorf("%v of %v is not %d", v, kinds, amount)
			}
			for k := range kinds {
				if v[k] < 0 || v[k] > coins[k] {
					t.Errorf("%v is not among %v", v, coins)
				}
			}
		}
		for _, other := range ways(kinds, coins, amount) {
			if !found || sum(other) < sum(v) {
				t.Errorf("%d out of %v of %v: %v, but there is %v", amount, coins, kinds, v, other)
			}
		}
		most := d.Roll(api.MaxChangeAmount + 1)
		before, _ := change.Cannot(b, coins, most)
		for k := range kinds {
			more := slices.Clone(coins)
			more[k]++
			if w, is, _ := change.Give(b, more, amount); found && (!is || sum(w) > sum(v)) {
				t.Errorf("%d out of %v: %v, but out of %v: %v", amount, coins, v, more, w)
			}
			if after, _ := change.Cannot(b, more, most); !oracle.Within(after, before) {
				t.Errorf("%v of %v cannot give %v, but %v cannot give %v", coins, kinds, before, more, after)
			}
		}
	}
}

// P4.9: the amount of a drawer grows by the prices of the sales that go.
func TestConserved(t *testing.T) {
	d := dice.Dice(11)
	for range 500 {
		b, _ := anyBook(&d, true)
		drawer := anyCoins(&d, len(b.Kinds), 9)
		before, _ := change.Amount(b, drawer)
		refused, after, l := change.Play(b, drawer, d.Shuffled(len(b.Sales)))
		for i, s := range b.Sales {
			if !slices.Contains(refused, i) {
				before += s.Price
			}
		}
		if n, _ := change.Amount(b, after); n != before || l != api.Fine {
			t.Errorf("%+v: %v becomes %v with %v refused, bell %d", b, drawer, after, refused, l)
		}
	}
}

// P4.10: with the float no sale is refused, and no fewer coins are enough; no other order refuses fewer than Best.
func TestPlans(t *testing.T) {
	d := dice.Dice(12)
	for i := range 200 {
		b, _ := anyBook(&d, i%2 == 0)
		all := pasts(b)
		if len(all) == 0 {
			continue
		}
		refuses := func(more []int) bool {
			return slices.ContainsFunc(all, func(p past) bool {
				refused, _, l := change.Play(b, added(p.first, more, 1), p.order)
				if l != api.Fine {
					t.Errorf("%+v, %v: bell %d", b, more, l)
				}
				return len(refused) > 0
			})
		}
		more, found, _ := change.Float(b)
		if found && (refuses(more) || sum(more) > api.MaxChangeMore) {
			t.Errorf("%+v: %v is not enough", b, more)
		}
		for _, other := range handfuls(len(b.Kinds), api.MaxChangeMore) {
			if !refuses(other) && (!found || sum(other) < sum(more)) {
				t.Errorf("%+v: %v is enough, and not only %v", b, other, more)
			}
		}
		best, least, _ := change.Best(b)
		if !isOrdered(b, best) {
			t.Errorf("%+v: %v is not possible", b, best)
		}
		for _, order := range orders(len(b.Sales)) {
			most := 0
			for _, p := range all {
				refused, _, _ := change.Play(b, p.first, order)
				most = max(most, len(refused))
			}
			if isOrdered(b, order) && most < least || slices.Equal(order, best) && most != least {
				t.Errorf("%+v: %v refuses %d, %v refuses %d", b, order, most, best, least)
			}
		}
	}
}

// P4.10: a swap conserves the amount, and gives change for all that it says.
func TestSwaps(t *testing.T) {
	d := dice.Dice(13)
	swapped := 0
	for range 1000 {
		kinds := anyKinds(&d)
		b, coins, most := bookOf(kinds...), anyCoins(&d, len(kinds), 6), d.Roll(12)
		in, out, found, l := change.Swap(b, coins, most)
		if l != api.Fine {
			t.Fatal(l)
		}
		if !found {
			continue
		}
		now := added(added(coins, out, -1), in, 1)
		given, _ := change.Amount(b, in)
		got, _ := change.Amount(b, out)
		if list, l := change.Cannot(b, now, most); len(list) > 0 || l != api.Fine || given != got || sum(in) > api.MaxChangeSwap {
			t.Errorf("%v of %v: %v for %v leaves %v", coins, kinds, in, out, list)
		}
		if before, _ := change.Cannot(b, coins, most); (len(before) == 0) != (sum(in)+sum(out) == 0) {
			t.Errorf("%v of %v: %v for %v, though %v could not be given", coins, kinds, in, out, before)
		}
		swapped += min(1, sum(in))
	}
	if swapped < 20 {
		t.Errorf("only %d swaps", swapped)
	}
}
