package sales_test

import (
	"slices"
	"testing"

	"nosale/api"
	"nosale/dice"
	"nosale/oracle"
	"nosale/sales"
)

// noMore tells whether a book of which more is known makes no history, no amount and no number possible that was not, and takes back nothing that was sure.
func noMore(t *testing.T, b, o api.SalesBook) {
	t.Helper()
	before, _ := sales.Histories(b)
	after, _ := sales.Histories(o)
	if after > before {
		t.Errorf("%+v: %d histories, %+v: %d", b, before, o, after)
	}
	for i, s := range b.Slips {
		was, _ := sales.Amounts(b, i)
		is, _ := sales.Amounts(o, i)
		if slices.ContainsFunc(is, func(n int) bool { return !slices.Contains(was, n) }) {
			t.Errorf("%+v: Amounts %d is %v, %+v: %v", b, i, was, o, is)
		}
		if s.Kind == api.SalesFix {
			was, _ := sales.Signed(b, i)
			if is, _ := sales.Signed(o, i); was != api.Open && is != was {
				t.Errorf("%+v: Signed %d is %d, %+v: %d", b, i, was, o, is)
			}
		}
	}
	for _, s := range things() {
		was, _ := sales.Sum(b, s.Kind, s.A)
		if is, _ := sales.Sum(o, s.Kind, s.A); is.Low < was.Low || is.High > was.High {
			t.Errorf("%+v: Sum %d of %d is %v, %+v: %v", b, s.Kind, s.A, was, o, is)
		}
	}
	for i := range b.Sums {
		was, _ := sales.False(b, i)
		if is, _ := sales.False(o, i); was != api.Open && is != was {
			t.Errorf("%+v: False %d is %d, %+v: %d", b, i, was, o, is)
		}
	}
	fewer, _ := sales.Fewest(b)
	if more, _ := sales.Fewest(o); len(more) < len(fewer) {
		t.Errorf("%+v: Fewest is %v, %+v: %v", b, fewer, o, more)
	}
}

// P6.8: no fewer sums than those of Fewest are false in anything that was written, and these can be all that are.
func TestNoFewer(t *testing.T) {
	d := dice.Dice(11)
	many := 0
	for i := range 150 {
		b, _ := anyBook(&d, i%2 == 0)
		list, l := sales.Fewest(b)
		loose := clone(b)
		found := false
		for _, p := range plays(b) {
			_, wrong, _ := sales.Play(b, p.numbers, p.of(b))
			// with as many false sums as these, no more than Most, it is a history just if it can have been written
			loose.Most = min(len(wrong), api.MaxSalesMost)
			if is, _ := sales.IsHistory(loose, p.numbers, p.of(b)); !is {
				continue
			}
			if l != api.Fine || len(wrong) < len(list) {
				t.Errorf("%+v, %v: %v are false, but Fewest is %v, bell %d", b, p, wrong, list, l)
			}
			found = found || slices.Equal(wrong, list)
		}
		if l == api.Fine && len(list) <= api.MaxSalesMost && !found {
			t.Errorf("%+v: Fewest is %v, but these are never all", b, list)
		}
		many += len(list)
		// so many can be false, and no fewer
		for most := range api.MaxSalesMost + 1 {
			loose.Most = most
			if n, _ := sales.Histories(loose); (n > 0) != (l == api.Fine && len(list) <= most) {
				t.Errorf("%+v: Fewest is %v, bell %d, but there are %d histories", loose, list, l, n)
			}
		}
	}
	if many < 50 {
		t.Errorf("only %d sums were false", many)
	}
}

// P6.8: more false sums that are allowed never take a history away, and a sum that is trusted never adds one.
func TestMoreFalse(t *testing.T) {
	d := dice.Dice(12)
	more, fewer := 0, 0
	for i := range 200 {
		b, _ := anyBook(&d, i%2 == 0)
		all := pasts(b)
		o := clone(b)
		for o.Most++; o.Most <= api.MaxSalesMost; o.Most++ {
			for _, p := range all[:min(len(all), 10)] {
				if is, l := sales.IsHistory(o, p.numbers, p.of(b)); !is || l != api.Fine {
					t.Errorf("%+v, %v: with %d false sums it is none, bell %d", b, p, o.Most, l)
				}
			}
			if n, _ := sales.Histories(o); n > len(all) {
				more++
			} else if n < len(all) {
				t.Errorf("%+v: %d histories, with %d false sums %d", b, len(all), o.Most, n)
			}
		}
		for i := range b.Sums {
			o, l := sales.Trust(b, i)
			if l != api.Fine {
				continue
			}
			for _, p := range pasts(o) {
				if !agrees(b, p) || slices.Contains(p.wrong, i) {
					t.Errorf("%+v, %v: the sum %d is trusted, and that is a history", b, p, i)
				}
			}
			if n, _ := sales.Histories(o); n < len(all) {
				fewer++
			}
			noMore(t, b, o)
		}
	}
	if more < 20 || fewer < 20 {
		t.Errorf("%d books had more histories, %d fewer", more, fewer)
	}
}

// sameAs tells whether the histories of a book are those of some, by what is written on so many slips.
func sameAs(t *testing.T, name string, b api.SalesBook, all []past) {
	t.Helper()
	n, l := sales.Histories(b)
	if n != len(all) || l != api.Fine {
		t.Errorf("%+v: %s: %d histories, bell %d, want %d", b, name, n, l, len(all))
	}
	for _, p := range all[:min(len(all), 10)] {
		if is, l := sales.IsHistory(b, p.numbers, p.of(b)); !is || l != api.Fine {
			t.Errorf("%+v: %s: %v is none, bell %d", b, name, p, l)
		}
	}
}

// P6.9, P0.6: what is told, signed or noted leaves just the histories with which it agrees.
func TestNewsNarrow(t *testing.T) {
	d := dice.Dice(13)
	for i := range 200 {
		b, real := anyBook(&d, i%2 == 0)
		all := pasts(b)
		if len(all) == 0 {
			continue
		}
		if i%2 == 0 {
			real = all[d.Roll(len(all))]
		}
		for i, s := range b.Slips {
			x := d.Around(real.numbers[i], 3, 0, api.MaxSalesAmount)
			o, l := sales.Tell(b, i, x)
			if l != api.Fine {
				t.Fatalf("%+v: %v cannot be told of %d, bell %d", b, x, i, l)
			}
			sameAs(t, "Tell", o, oracle.Kept(all, func(p past) bool { return p.numbers[i] >= x.Low && p.numbers[i] <= x.High }))
			noMore(t, b, o)
			if s.Kind != api.SalesFix || s.Signed != api.Open {
				continue
			}
			o, l = sales.Sign(b, i, real.signed[i])
			if l != api.Fine {
				t.Fatalf("%+v: %d cannot be signed, bell %d", b, i, l)
			}
			sameAs(t, "Sign", o, oracle.Kept(all, func(p past) bool { return p.signed[i] == real.signed[i] }))
			noMore(t, b, o)
		}
		if len(b.Sums) == api.MaxSalesSums {
			continue
		}
		s := anySum(&d, b, real, 3)
		s.Firm = d.Roll(2) == 0
		o, l := sales.Note(b, s)
		if l != api.Fine {
			t.Fatalf("%+v: %v cannot be noted, bell %d", b, s, l)
		}
		sameAs(t, "Note", o, oracle.Kept(all, func(p past) bool {
			n := sumOf(b, s.Kind, s.A, p.now)
			is := n < s.Many.Low || n > s.Many.High
			return !is || !s.Firm && len(p.wrong) < b.Most
		}))
		noMore(t, b, o)
	}
}

// P6.9: a fix that is not signed changes nothing but how often each history is counted; one that is signed changes the amount of its slip, and no other one.
func TestCorrectNarrows(t *testing.T) {
	d := dice.Dice(14)
	signed := 0
	for range 300 {
		b, _ := anyBook(&d, false)
		list := about(b, api.SalesFix)
		if len(list) == 0 || len(b.Slips) == api.MaxSalesSlips {
			continue
		}
		f := fix(list[d.Roll(len(list))], 0, 0, api.No)
		f.Amount = d.Around(d.Roll(20), 3, 0, 999)
		f.Amount.High = min(f.Amount.High, f.Amount.Low+2)
		o, l := sales.Correct(b, f)
		before, _ := sales.Histories(b)
		if after, _ := sales.Histories(o); after != before*(f.Amount.High-f.Amount.Low+1) || l != api.Fine {
			t.Errorf("%+v: %d histories, with %v %d, bell %d", b, before, f, after, l)
		}
		if was, is := sumsTold(b), sumsTold(o); is != was {
			t.Errorf("%+v: %s, with %v: %s", b, was, f, is)
		}
		f.Signed = api.Yes
		o, l = sales.Correct(b, f)
		if l != api.Fine {
			continue
		}
		signed++
		is, _ := sales.Amounts(o, f.For)
		if slices.ContainsFunc(is, func(n int) bool { return n < f.Amount.Low || n > f.Amount.High }) {
			t.Errorf("%+v: with %v it amounts to %v", b, f, is)
		}
		for i, s := range b.Slips {
			if o.Slips[i] != s {
				t.Errorf("%+v: with %v the slip %d is %v", b, f, i, o.Slips[i])
			}
		}
	}
	if signed < 50 {
		t.Errorf("only %d fixes were signed", signed)
	}
}

// sumsTold writes what is told of the sums of a book, and of which are false.
func sumsTold(b api.SalesBook) string {
	var out []any
	for _, s := range things() {
		v, l := sales.Sum(b, s.Kind, s.A)
		out = append(out, v, l)
	}
	for i := range b.Sums {
		v, l := sales.False(b, i)
		out = append(out, v, l)
	}
	list, l := sales.Fewest(b)
	return show(append(out, list, l)...)
}

// P6.9: once it is known what Ask asks, there are no more histories than it says.
func TestAsked(t *testing.T) {
	d := dice.Dice(15)
	asked := 0
	for i := range 300 {
		b, _ := anyBook(&d, i%2 == 0)
		all, _ := sales.Histories(b)
		if all == 0 {
			continue
		}
		slip, left, l := sales.Ask(b)
		if l != api.Fine || slip == -1 && left != all || slip >= 0 && left >= all {
			t.Errorf("%+v: %d histories, but Ask tells %d, %d, bell %d", b, all, slip, left, l)
		}
		for i, s := range b.Slips {
			// where no fix is for a slip, it can be told what it amounts to
			isFixed := slices.ContainsFunc(b.Slips, func(f api.SalesSlip) bool { return f.Kind == api.SalesFix && f.For == i })
			if isFixed || s.Kind == api.SalesFix {
				continue
			}
			most := 0
			list, _ := sales.Amounts(b, i)
			for _, n := range list {
				o, l := sales.Tell(b, i, to(n, n))
				if l != api.Fine {
					t.Errorf("%+v: %d of %d cannot be told, bell %d", b, n, i, l)
				}
				many, _ := sales.Histories(o)
				most = max(most, many)
			}
			if i == slip && most != left || most < left || i < slip && most == left {
				t.Errorf("%+v: the slip %d leaves %d, but Ask tells %d, %d", b, i, most, slip, left)
			}
		}
		if slip >= 0 {
			asked++
		}
	}
	if asked < 50 {
		t.Errorf("only %d books were asked", asked)
	}
}

// P6.10: a book that is clean has the same sums, and the same false ones, as before.
func TestCleanTheSame(t *testing.T) {
	d := dice.Dice(16)
	cleaned := 0
	for i := range 400 {
		b, _ := anyBook(&d, i%2 == 0)
		for i, s := range b.Slips {
			if s.Kind == api.SalesFix && s.Signed == api.Open {
				b.Slips[i].Signed = sureOfBool(d.Roll(2) == 0)
			}
		}
		o, l := sales.Clean(b)
		if l != api.Fine || sales.CheckBook(o) != api.Fine || o.Most != b.Most || show(o.Sums) != show(b.Sums) {
			t.Errorf("%+v: clean: %+v, bell %d", b, o, l)
		}
		if was, is := sumsTold(b), sumsTold(o); is != was {
			t.Errorf("%+v: %s, clean: %s", b, was, is)
		}
		// the slips that are left amount to what they amounted to
		at := 0
		for i, s := range b.Slips {
			if s.Kind == api.SalesFix {
				continue
			}
			was, l := sales.Amounts(b, i)
			if is, l2 := sales.Amounts(o, at); !slices.Equal(is, was) || l != l2 {
				t.Errorf("%+v: Amounts %d is %v, clean: %v", b, i, was, is)
			}
			at++
		}
		if at != len(o.Slips) {
			t.Errorf("%+v: clean: %d slips, want %d", b, len(o.Slips), at)
		}
		if again, l := sales.Clean(o); show(again) != show(o) || l != api.Fine {
			t.Errorf("%+v is clean, but is cleaned to %+v", o, again)
		}
		if at < len(b.Slips) {
			cleaned++
		}
	}
	if cleaned < 50 {
		t.Errorf("only %d books were cleaned", cleaned)
	}
}

// P6.11: the order of sums changes no more than indexes.
func TestOrderOfSums(t *testing.T) {
	d := dice.Dice(17)
	for i := range 300 {
		b, real := anyBook(&d, i%2 == 0)
		order := d.Shuffled(len(b.Sums))
		o := clone(b)
		for i, from := range order {
			o.Sums[i] = b.Sums[from]
		}
		old := func(list []int) []int {
			var back []int
			for _, i := range list {
				back = append(back, order[i])
			}
			slices.Sort(back)
			return back
		}
		now, wrong, _ := sales.Play(b, real.numbers, real.of(b))
		now2, wrong2, _ := sales.Play(o, real.numbers, real.of(b))
		is, _ := sales.IsHistory(b, real.numbers, real.of(b))
		is2, _ := sales.IsHistory(o, real.numbers, real.of(b))
		if show(now, wrong, is) != show(now2, old(wrong2), is2) {
			t.Errorf("%+v, in the order %v: %v, %v, %v, not %v, %v, %v", b, order, now2, wrong2, is2, now, wrong, is)
		}
		if one, other := slipsTold(b), slipsTold(o); one != other {
			t.Errorf("%+v, in the order %v: %s, not %s", b, order, other, one)
		}
		for i, from := range order {
			one, l := sales.False(b, from)
			other, l2 := sales.False(o, i)
			trusted, l3 := sales.Trust(b, from)
			trusted2, l4 := sales.Trust(o, i)
			many, _ := sales.Histories(trusted)
			many2, _ := sales.Histories(trusted2)
			if show(one, l, l3, many) != show(other, l2, l4, many2) {
				t.Errorf("%+v, in the order %v: the sum %d is another one", b, order, from)
			}
		}
		list, l := sales.Fewest(b)
		list2, l2 := sales.Fewest(o)
		if len(list) != len(list2) || l != l2 {
			t.Errorf("%+v, in the order %v: Fewest is %v, not %v", b, order, list2, list)
		}
		// these sums can be all that are false
		if len(list2) <= api.MaxSalesMost && l == api.Fine {
			few := clone(b)
			few.Most = len(list)
			for i := range few.Sums {
				few.Sums[i].Firm = !slices.Contains(old(list2), i)
			}
			if n, _ := sales.Histories(few); n == 0 {
				t.Errorf("%+v, in the order %v: %v are never all that are false", b, order, list2)
			}
		}
	}
}

// slipsTold writes what is told of the slips and the sums of all kinds of a book.
func slipsTold(b api.SalesBook) string {
	var out []any
	for i := range b.Slips {
		list, l := sales.Amounts(b, i)
		sure, l2 := sales.Signed(b, i)
		out = append(out, list, sure, l, l2)
	}
	for _, s := range things() {
		v, l := sales.Sum(b, s.Kind, s.A)
		out = append(out, v, l)
	}
	many, l := sales.Histories(b)
	slip, left, l2 := sales.Ask(b)
	return show(append(out, many, slip, left, l, l2)...)
}
