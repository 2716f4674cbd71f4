package evening_test

import (
	"slices"
	"testing"

	"nosale/api"
	"nosale/dice"
	"nosale/evening"
	"nosale/oracle"
	"nosale/promises"
)

// noMore tells whether a book of which more is known has no history that the other one did not have, widens no span, and takes back nothing that was sure. Of a slip of the one, same tells its index in the other, -1 if it is mended.
func noMore(t *testing.T, b, o api.EveningBook, same func(slip int) int) {
	t.Helper()
	before, _ := evening.Histories(b)
	after, l := evening.Histories(o)
	if after > before || after == 0 || l != api.Fine {
		t.Errorf("%+v: %d histories, %+v: %d, bell %d", b, before, o, after, l)
	}
	for i := range b.Clerks {
		was, _ := evening.Took(b, i)
		is, _ := evening.Took(o, i)
		wide, _ := evening.Sums(b, i)
		s, _ := evening.Sums(o, i)
		if was != api.Open && is != was || !oracle.IsNarrow(s, wide) {
			t.Errorf("%+v: Took %d is %d of %v, %+v: %d of %v", b, i, was, wide, o, is, s)
		}
	}
	for i := range b.Hours {
		was, _ := evening.Hour(b, i)
		if is, _ := evening.Hour(o, i); was != api.Open && is != was {
			t.Errorf("%+v: Hour %d is %d, %+v: %d", b, i, was, o, is)
		}
	}
	for i := range b.Wheels {
		was, _ := evening.Slipped(b, i)
		is := api.No
		if to := same(i); to >= 0 {
			is, _ = evening.Slipped(o, to)
		}
		if was != api.Open && is != was {
			t.Errorf("%+v: Slipped %d is %d, %+v: %d", b, i, was, o, is)
		}
	}
	wide, _ := evening.Loss(b)
	if s, _ := evening.Loss(o); !oracle.IsNarrow(s, wide) {
		t.Errorf("%+v: Loss is %v, %+v: %v", b, wide, o, s)
	}
	was, _ := evening.Explained(b)
	if is, _ := evening.Explained(o); is && !was {
		t.Errorf("%+v: it is explained by %+v", b, o)
	}
	fewer, _ := evening.Fewest(b)
	if more, _ := evening.Fewest(o); len(more) < len(fewer) {
		t.Errorf("%+v: Fewest is %v, %+v: %v", b, fewer, o, more)
	}
}

// itself is the index of a slip where none is mended.
func itself(slip int) int { return slip }

// sameHistories tells whether the histories of a book are those of some.
func sameHistories(t *testing.T, name string, b api.EveningBook, all []past) {
	t.Helper()
	if n, l := evening.Histories(b); n != len(all) || l != api.Fine {
		t.Errorf("%+v: %s: %d histories, bell %d, want %d", b, name, n, l, len(all))
	}
	for _, p := range all {
		if is, l := evening.Agrees(b, p.takings, p.slips); !is || l != api.Fine {
			t.Errorf("%+v: %s: %v is none, bell %d", b, name, p, l)
		}
	}
}

// news tells whether a function returned a book with just these histories, or Odds if there are none.
func news(t *testing.T, name string, b, o api.EveningBook, l api.Bell, all []past, same func(slip int) int) {
	t.Helper()
	if len(all) == 0 {
		if l != api.Odds {
			t.Errorf("%+v: %s: bell %d, but nothing is left", b, name, l)
		}
		return
	}
	if l != api.Fine || evening.CheckBook(o) != api.Fine {
		t.Errorf("%+v: %s: %+v, bell %d", b, name, o, l)
		return
	}
	sameHistories(t, name, o, all)
	noMore(t, b, o, same)
}

// P7.9, P0.6: what is cleared or mended leaves just the histories in which it did not happen.
func TestClearAndMendNarrow(t *testing.T) {
	d := dice.Dice(10)
	for i := range 200 {
		b, _ := anyBook(&d, i%2 == 0)
		all := pasts(b)
		if len(all) == 0 {
			continue
		}
		for _, duty := range duties(b) {
			o, l := evening.Clear(b, duty.Hour, duty.Clerk)
			left := oracle.Kept(all, func(p past) bool { return p.ofDuty(duty.Hour, duty.Clerk) == 0 })
			news(t, "cleared", b, o, l, left, itself)
		}
		for slip := range b.Wheels {
			o, l := evening.Mend(b, slip)
			same := func(i int) int {
				if i < slip {
					return i
				}
				if i == slip {
					return -1
				}
				return i - 1
			}
			var left []past
			for _, p := range oracle.Kept(all, func(p past) bool { return !slices.Contains(p.slips, slip) }) {
				moved := past{takings: p.takings}
				for _, i := range p.slips {
					moved.slips = append(moved.slips, same(i))
				}
				left = append(left, moved)
			}
			news(t, "mended", b, o, l, left, same)
		}
	}
}

// P7.9, P0.6: what is counted leaves just the histories in which it is right.
func TestCountNarrows(t *testing.T) {
	d := dice.Dice(11)
	fewer, odds := 0, 0
	for i := range 300 {
		b, _, behind := anyEvening(&d)
		for hour, money := range behind {
			c := api.EveningCount{After: hour, Money: d.Around(money, 1+i%3, 0, api.MaxEveningMoney)}
			if d.Roll(4) == 0 {
				c.Money = to(c.Money.Low+2, c.Money.High+2)
			}
			want := clone(b)
			want.Counts = append(want.Counts, c)
			left := pasts(want)
			o, l := evening.Count(b, c)
			news(t, "counted", b, o, l, left, itself)
			if l != api.Fine {
				odds++
				continue
			}
			if len(left) < len(pasts(b)) {
				fewer++
			}
			// whichever comes first, the book is the same
			if d.Roll(2) == 0 {
				b = o
			}
		}
	}
	if fewer < 100 || odds < 10 {
		t.Errorf("counts took histories away %d times, all of them %d times", fewer, odds)
	}
}

// P7.9: counts are the same in whatever order they come.
func TestCountsInAnyOrder(t *testing.T) {
	d := dice.Dice(12)
	for range 200 {
		b, _ := anyBook(&d, false)
		o := alone(b, nil)
		for _, i := range d.Shuffled(len(b.Counts)) {
			next, l := evening.Count(o, b.Counts[i])
			if l != api.Fine {
				t.Fatalf("%+v: %v has the bell %d", o, b.Counts[i], l)
			}
			if again, l := evening.Count(next, b.Counts[i]); l != api.Twice {
				t.Errorf("%+v: counted twice: %+v, bell %d", next, again, l)
			}
			o = next
		}
		if show(o) != show(b) {
			t.Errorf("%+v is not %+v", o, b)
		}
	}
}

// P7.9: counts that clash have no history, and no fewer do.
func TestClashAlone(t *testing.T) {
	d := dice.Dice(13)
	found, long := 0, 0
	for range 800 {
		b, _ := anyBook(&d, true)
		list, l := evening.Clash(b)
		n, _ := evening.Histories(b)
		if l != api.Fine || (len(list) == 0) != (n > 0) {
			t.Errorf("%+v: %d histories, but Clash is %v, bell %d", b, n, list, l)
		}
		if len(list) == 0 {
			continue
		}
		found++
		if len(list) > 1 {
			long++
		}
		promises.Clash(t, show(b), len(b.Counts), list, func(some []int) int {
			n, _ := evening.Histories(alone(b, some))
			return n
		})
	}
	if found < 50 || long < 20 {
		t.Errorf("only %d books clash, %d with more than one count", found, long)
	}
}

// P7.9: once it is known what Ask asks no more histories are left than it says, and whichever other duty is asked about, no fewer.
func TestAsked(t *testing.T) {
	d := dice.Dice(14)
	asked := 0
	for i := range 300 {
		b, _ := anyBook(&d, i%2 == 0)
		all := pasts(b)
		if len(all) == 0 {
			continue
		}
		hour, clerk, left, l := evening.Ask(b)
		list := duties(b)
		duty := slices.Index(list, taking(hour, clerk, 0))
		if l != api.Fine || duty < 0 && (hour != -1 || clerk != -1) {
			t.Errorf("%+v: Ask tells %d, %d, bell %d", b, hour, clerk, l)
		}
		promises.Asked(t, show(b), len(all), len(list), duty, left, func(i int) int { return leftOf(b, all, list[i]) })
		if hour < 0 {
			continue
		}
		asked++
		// if it is known that nothing was taken there, the book is the one that is cleared
		if o, l := evening.Clear(b, hour, clerk); l == api.Fine {
			if n, _ := evening.Histories(o); n > left {
				t.Errorf("%+v: %d, %d cleared leaves %d, but Ask tells %d", b, hour, clerk, n, left)
			}
		}
	}
	if asked < 50 {
		t.Errorf("only %d books were asked", asked)
	}
}

// P7.10: the order of clerks and of slips changes no more than indexes.
func TestOrder(t *testing.T) {
	d := dice.Dice(15)
	for i := range 300 {
		b, _ := anyBook(&d, i%2 == 0)
		clerks, slips := d.Shuffled(len(b.Clerks)), d.Shuffled(len(b.Wheels))
		o := clone(b)
		for now, old := range clerks {
			o.Clerks[now] = b.Clerks[old]
		}
		for i, h := range b.Hours {
			for j, old := range h.Staff {
				o.Hours[i].Staff[j] = slices.Index(clerks, old)
			}
			slices.Sort(o.Hours[i].Staff)
		}
		for now, old := range slips {
			o.Wheels[now] = b.Wheels[old]
		}
		if one, other := plain(b), plain(o); one != other {
			t.Errorf("%+v: %s, %+v: %s", b, one, o, other)
		}
		for now, old := range clerks {
			one, other := ofClerk(b, old), ofClerk(o, now)
			if one != other {
				t.Errorf("%+v: clerk %d: %s, %+v: %d: %s", b, old, one, o, now, other)
			}
		}
		for now, old := range slips {
			if one, other := ofSlip(b, old), ofSlip(o, now); one != other {
				t.Errorf("%+v: slip %d: %s, %+v: %d: %s", b, old, one, o, now, other)
			}
		}
		sameOrdered(t, b, o, clerks, slips)
	}
}

// plain writes what is told of a book, and not of a clerk or of a slip.
func plain(b api.EveningBook) string {
	many, l := evening.Histories(b)
	explained, l2 := evening.Explained(b)
	loss, l3 := evening.Loss(b)
	clash, l4 := evening.Clash(b)
	fewest, l5 := evening.Fewest(b)
	money := 0
	for _, t := range fewest {
		money += t.Amount
	}
	hands, l6 := evening.Hands(b)
	_, _, left, l7 := evening.Ask(b)
	told := []any{many, explained, loss, clash, len(fewest), money, len(hands), left, l, l2, l3, l4, l5, l6, l7}
	for i := range b.Hours {
		sure, l := evening.Hour(b, i)
		told = append(told, sure, l)
	}
	for i := range b.Counts {
		gap, l := evening.Gap(b, i)
		told = append(told, gap, l)
	}
	return show(told...)
}

// ofClerk writes what is told of a clerk.
func ofClerk(b api.EveningBook, clerk int) string {
	took, l := evening.Took(b, clerk)
	sums, l2 := evening.Sums(b, clerk)
	told := []any{took, sums, l, l2}
	for hour := range b.Hours {
		o, l := evening.Clear(b, hour, clerk)
		many, _ := evening.Histories(o)
		told = append(told, many, l)
	}
	return show(told...)
}

// ofSlip writes what is told of a slip.
func ofSlip(b api.EveningBook, slip int) string {
	sure, l := evening.Slipped(b, slip)
	o, l2 := evening.Mend(b, slip)
	many, _ := evening.Histories(o)
	return show(sure, many, l, l2)
}

// sameOrdered tells whether the histories of a book are those of another one with other indexes of clerks and slips.
func sameOrdered(t *testing.T, b, o api.EveningBook, clerks, slips []int) {
	t.Helper()
	for _, p := range pasts(b) {
		var q past
		for _, x := range p.takings {
			q.takings = append(q.takings, taking(x.Hour, slices.Index(clerks, x.Clerk), x.Amount))
		}
		slices.SortFunc(q.takings, func(x, y api.EveningTaking) int {
			return slices.Compare([]int{x.Hour, x.Clerk}, []int{y.Hour, y.Clerk})
		})
		for _, s := range p.slips {
			q.slips = append(q.slips, slices.Index(slips, s))
		}
		slices.Sort(q.slips)
		if is, l := evening.Agrees(o, q.takings, q.slips); !is || l != api.Fine {
			t.Errorf("%+v: %v, %+v: %v: %v, bell %d", b, p, o, q, is, l)
		}
	}
}
