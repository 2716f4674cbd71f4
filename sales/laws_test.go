package sales_test

import (
	"math"
	"slices"
	"strings"
	"testing"

	"nosale/api"
	"nosale/dice"
	"nosale/oracle"
	"nosale/sales"
)

// P0.1: each function returns, whatever it is called with, and returns the same to several goroutines; it changes nothing.
func TestAlwaysTheSame(t *testing.T) {
	d := dice.Dice(6)
	var books []api.SalesBook
	for _, text := range texts() {
		books = append(books, parse(t, text))
	}
	for i, x := range bellCases() {
		b := parse(t, textS)
		x.change(&b)
		if x.want != api.Fine || i%10 == 0 {
			books = append(books, b)
		}
	}
	for i := range 10 {
		b, _ := anyBook(&d, i%2 == 0)
		books = append(books, b)
	}
	layer().AlwaysTheSame(t, report, books...)
}

// P0.1: numbers that are very great or very small, and slices that are very long, have a bell.
func TestGarbage(t *testing.T) {
	d := dice.Dice(7)
	odd := []int{math.MinInt, -1, 0, 0, 0, 1, 1, 2, 3, 4, 5, 6, 999, 1000, math.MaxInt}
	some := func() int { return odd[d.Roll(len(odd))] }
	for range 300 {
		b, _ := anyBook(&d, true)
		if d.Roll(3) == 0 {
			b.Most = some()
		}
		for range d.Roll(3) {
			b.Slips = append(b.Slips, api.SalesSlip{Kind: api.SalesKind(some()), Dept: some(), Clerk: some(), For: some(), Amount: to(some(), some()), Signed: api.Sure(some())})
		}
		for range d.Roll(3) {
			b.Sums = append(b.Sums, api.SalesSum{Kind: api.SalesSumKind(some()), A: some(), Many: to(some(), some()), Firm: d.Roll(2) == 0})
		}
		if len(b.Slips) > 0 && d.Roll(3) == 0 {
			b.Slips[d.Roll(len(b.Slips))].For = some()
		}
		report(b)
	}
	for i, grow := range []func(b *api.SalesBook){
		func(b *api.SalesBook) { b.Slips = make([]api.SalesSlip, 1000000) },
		func(b *api.SalesBook) { b.Sums = make([]api.SalesSum, 1000000) },
	} {
		b := parse(t, textS)
		grow(&b)
		if _, l := sales.Histories(b); l != api.Count {
			t.Errorf("a million, %d: bell %d", i, l)
		}
	}
}

// R3: it makes no difference whether a slice is nil or empty.
func TestNilOrEmpty(t *testing.T) {
	none, empty := api.SalesBook{Most: 1}, api.SalesBook{Most: 1, Slips: []api.SalesSlip{}, Sums: []api.SalesSum{}}
	if report(empty) != report(none) {
		t.Error("empty slices and none make a difference")
	}
	for _, numbers := range [][]int{nil, {}} {
		for _, signed := range [][]bool{nil, {}} {
			if is, l := sales.IsHistory(none, numbers, signed); !is || l != api.Fine {
				t.Errorf("no slips: %v, bell %d", is, l)
			}
		}
	}
}

// R4: books that are returned share no memory with those that are handed in.
func TestNoSharedMemory(t *testing.T) {
	spoil := func(b api.SalesBook) {
		for i := range b.Slips {
			b.Slips[i].Clerk = 77
		}
		for i := range b.Sums {
			b.Sums[i].A = 77
		}
	}
	const more = "sales 2\nslip sold 1 0 -1 20..22 open\nslip fix 0 0 0 30 open\nsum cash 0 30 loose\n"
	const clear = "sales 2\nslip sold 1 0 -1 20..22 open\nsum cash 0 30 loose\n"
	news := func(b api.SalesBook, clean api.SalesBook) []api.SalesBook {
		told, l := sales.Tell(b, 0, to(0, 999))
		signed, l2 := sales.Sign(b, 1, true)
		corrected, l3 := sales.Correct(b, fix(0, 30, 30, api.Yes))
		noted, l4 := sales.Note(b, sum(api.SalesCash, 0, 30, 30))
		trusted, l5 := sales.Trust(b, 0)
		cleaned, l6 := sales.Clean(clean)
		if l+l2+l3+l4+l5+l6 != api.Fine {
			t.Fatal(l, l2, l3, l4, l5, l6)
		}
		return []api.SalesBook{told, signed, corrected, noted, trusted, cleaned}
	}
	b, clean := parse(t, more), parse(t, clear)
	// room behind the elements must not be written to
	b.Slips = append(make([]api.SalesSlip, 0, 9), b.Slips...)
	b.Sums = append(make([]api.SalesSum, 0, 9), b.Sums...)
	slips, sums := b.Slips[:3], b.Sums[:2]
	for _, o := range news(b, clean) {
		spoil(o)
	}
	one, _ := sales.Print(b)
	two, _ := sales.Print(clean)
	if one != more || two != clear || slips[2] != (api.SalesSlip{}) || sums[1] != (api.SalesSum{}) {
		t.Errorf("a result shares memory with the book: %q, %q, %v, %v", one, two, slips, sums)
	}
	all := news(b, clean)
	spoil(b)
	spoil(clean)
	for i, want := range []string{more, strings.Replace(more, "30 open", "30 yes", 1), strings.Replace(more, "sum", "slip fix 0 0 0 30 yes\nsum", 1), more + "sum cash 0 30 loose\n", strings.Replace(more, "loose", "firm", 1), clear} {
		if text, _ := sales.Print(all[i]); text != want {
			t.Errorf("the book shares memory with a result: %q", text)
		}
	}
}

// R4: lists that are returned share no memory with those that are handed in.
func TestNoSharedLists(t *testing.T) {
	b := parse(t, textS)
	numbers, signed := []int{21, 10, 5, 30}, []bool{false}
	now, _, l := sales.Play(b, numbers, signed)
	for i := range now {
		now[i] = 77
	}
	if show(numbers, signed) != "[[21 10 5 30] [false]]" || l != api.Fine {
		t.Errorf("%v, %v, bell %d", numbers, signed, l)
	}
}

// P6.5, P0.4: what really was written is a history, and is among all that is told.
func TestWhatReallyHappened(t *testing.T) {
	d := dice.Dice(8)
	for range 500 {
		b, real := anyBook(&d, false)
		if is, l := sales.IsHistory(b, real.numbers, real.of(b)); !is || l != api.Fine {
			t.Fatalf("%+v: what was written is no history: %v, bell %d", b, real, l)
		}
		for i, s := range b.Slips {
			if list, l := sales.Amounts(b, i); !slices.Contains(list, real.now[i]) || l != api.Fine {
				t.Errorf("%+v, %v: Amounts %d is %v, bell %d", b, real, i, list, l)
			}
			if s.Kind != api.SalesFix {
				continue
			}
			if sure, l := sales.Signed(b, i); sure != api.Open && sure != sureOfBool(real.signed[i]) || l != api.Fine {
				t.Errorf("%+v, %v: Signed %d: %d, bell %d", b, real, i, sure, l)
			}
		}
		for _, s := range things() {
			n := sumOf(b, s.Kind, s.A, real.now)
			if v, l := sales.Sum(b, s.Kind, s.A); n < v.Low || n > v.High || l != api.Fine {
				t.Errorf("%+v, %v: Sum %d of %d is %v, not %d, bell %d", b, real, s.Kind, s.A, v, n, l)
			}
		}
		for i := range b.Sums {
			is := slices.Contains(real.wrong, i)
			if sure, l := sales.False(b, i); sure != api.Open && sure != sureOfBool(is) || l != api.Fine {
				t.Errorf("%+v, %v: False %d: %d, bell %d", b, real, i, sure, l)
			}
		}
		if list, l := sales.Fewest(b); len(list) > len(real.wrong) || l != api.Fine {
			t.Errorf("%+v, %v: Fewest: %v, bell %d", b, real, list, l)
		}
		if slip, left, l := sales.Ask(b); left < 1 || slip >= len(b.Slips) || l != api.Fine {
			t.Errorf("%+v: Ask: %d, %d, bell %d", b, slip, left, l)
		}
	}
}

// told is what Play tells of all that is a history by IsHistory.
func told(t *testing.T, b api.SalesBook) []past {
	t.Helper()
	return oracle.Kept(plays(b), func(p past) bool {
		is, l := sales.IsHistory(b, p.numbers, p.of(b))
		now, wrong, l2 := sales.Play(b, p.numbers, p.of(b))
		if l+l2 != api.Fine || show(now, wrong) != show(p.now, p.wrong) {
			t.Errorf("%+v, %v: bells %d, %d, %v, %v", b, p, l, l2, now, wrong)
		}
		return is
	})
}

// P6.6: each amount, both ends of each span, and each thing that is open are those of a history, and nothing else is.
func TestReached(t *testing.T) {
	d := dice.Dice(9)
	bell := func(so bool) api.Bell {
		if so {
			return api.Fine
		}
		return api.Odds
	}
	for i := range 100 {
		b, _ := anyBook(&d, i%2 == 0)
		all := told(t, b)
		if n, _ := sales.Histories(b); n != len(all) {
			t.Errorf("%+v: %d histories, of %d", b, n, len(all))
		}
		if len(all) == 0 {
			continue
		}
		if len(b.Sums) == api.MaxSalesSums {
			b.Sums = b.Sums[1:]
			all = told(t, b)
		}
		for i, s := range b.Slips {
			list, _ := sales.Amounts(b, i)
			if want := oracle.Numbers(all, func(p past) int { return p.now[i] }); !slices.Equal(list, want) {
				t.Errorf("%+v: Amounts %d is %v, not %v", b, i, list, want)
			}
			if s.Kind == api.SalesFix && s.Signed == api.Open {
				sure, _ := sales.Signed(b, i)
				_, yes := sales.Sign(b, i, true)
				_, no := sales.Sign(b, i, false)
				if yes != bell(sure != api.No) || no != bell(sure != api.Yes) {
					t.Errorf("%+v: Signed %d is %d, but it is signed with bells %d, %d", b, i, sure, yes, no)
				}
			}
		}
		for _, s := range things() {
			v, _ := sales.Sum(b, s.Kind, s.A)
			s.Firm = true
			for n, want := range map[int]bool{v.Low: true, v.High: true, v.Low - 1: false, v.High + 1: false} {
				s.Many = to(n, n)
				if _, l := sales.Note(b, s); l != bell(want) {
					t.Errorf("%+v: Sum %d of %d is %v, but %d is noted with bell %d", b, s.Kind, s.A, v, n, l)
				}
			}
		}
		for i, s := range b.Sums {
			sure, _ := sales.False(b, i)
			_, l := sales.Trust(b, i)
			if l != bell(sure != api.Yes) || s.Firm && sure != api.No {
				t.Errorf("%+v: False %d is %d, but it is trusted with bell %d", b, i, sure, l)
			}
			if some := len(oracle.Kept(all, func(p past) bool { return slices.Contains(p.wrong, i) })); (some > 0) != (sure != api.No) {
				t.Errorf("%+v: False %d is %d, but it is so in %d histories", b, i, sure, some)
			}
		}
	}
}

// P6.7: cash and debt together are what all clerks sold; the goods of all departments are that and the gifts.
func TestConserved(t *testing.T) {
	d := dice.Dice(10)
	some := 0
	for range 300 {
		b, real := anySlips(&d)
		if !isThere(b, real) {
			continue
		}
		// what was written is all that can have been written
		for i := range b.Slips {
			b.Slips[i].Amount = to(real.numbers[i], real.numbers[i])
			if b.Slips[i].Kind == api.SalesFix {
				b.Slips[i].Signed = sureOfBool(real.signed[i])
			}
		}
		total := map[api.SalesSumKind]int{}
		for _, s := range things() {
			v, l := sales.Sum(b, s.Kind, s.A)
			if v.Low != v.High || l != api.Fine {
				t.Fatalf("%+v: Sum %d of %d: %v, bell %d", b, s.Kind, s.A, v, l)
			}
			total[s.Kind] += v.Low
		}
		if total[api.SalesCash]+total[api.SalesDebt] != total[api.SalesClerk] || total[api.SalesDept] != total[api.SalesClerk]+total[api.SalesGifts] {
			t.Errorf("%+v: %v", b, total)
		}
		if total[api.SalesCash]*total[api.SalesDebt]*total[api.SalesGifts] != 0 {
			some++
		}
	}
	if some < 20 {
		t.Errorf("only %d books have cash, debt and gifts", some)
	}
}
