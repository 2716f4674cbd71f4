package evening_test

import (
	"math"
	"slices"
	"strings"
	"testing"

	"nosale/api"
	"nosale/dice"
	"nosale/evening"
	"nosale/oracle"
)

// P0.1: each function returns, whatever it is called with, and returns the same to several goroutines; it changes nothing.
func TestAlwaysTheSame(t *testing.T) {
	d := dice.Dice(4)
	books := []api.EveningBook{{}}
	for _, text := range texts() {
		books = append(books, parse(t, text))
	}
	for i, x := range bellCases() {
		b := parse(t, textE)
		x.change(&b)
		if x.want != api.Fine || i%10 == 0 {
			books = append(books, b)
		}
	}
	for i := range 10 {
		b, _ := anyBook(&d, i%2 == 0)
		books = append(books, b)
	}
	layer().AlwaysTheSame(t, report, books...)
}

// P0.1: numbers that are very great or very small, strings of any bytes, and slices that are very long, have a bell.
func TestGarbage(t *testing.T) {
	d := dice.Dice(5)
	odd := []int{math.MinInt, -1000, -1, 0, 0, 1, 1, 2, 3, 4, 5, 999, 9999, 10000, math.MaxInt}
	some := func() int { return odd[d.Roll(len(odd))] }
	for range 300 {
		b, _ := anyBook(&d, true)
		if d.Roll(4) == 0 {
			b.Most, b.Take, b.Slips = some(), some(), some()
		}
		if d.Roll(4) == 0 {
			b.Float = to(some(), some())
		}
		for range d.Roll(2) {
			b.Clerks = append(b.Clerks, []string{"x", "\xff", ""}[d.Roll(3)])
		}
		for range d.Roll(2) {
			b.Hours = append(b.Hours, api.EveningHour{Said: to(some(), some()), Staff: []int{some(), some()}[:d.Roll(3)]})
		}
		for range d.Roll(2) {
			b.Wheels = append(b.Wheels, api.EveningSlip{Hour: some(), Error: some()})
		}
		for range d.Roll(2) {
			b.Counts = append(b.Counts, count(some(), some(), some()))
		}
		report(b)
	}
	for i, grow := range []func(b *api.EveningBook){
		func(b *api.EveningBook) { b.Clerks = make([]string, 1000000) },
		func(b *api.EveningBook) { b.Hours = make([]api.EveningHour, 1000000) },
		func(b *api.EveningBook) { b.Wheels = make([]api.EveningSlip, 1000000) },
		func(b *api.EveningBook) { b.Counts = make([]api.EveningCount, 1000000) },
	} {
		b := parse(t, textE)
		grow(&b)
		if _, l := evening.Histories(b); l != api.Count {
			t.Errorf("a million, %d: bell %d", i, l)
		}
	}
}

// P0.1: the numbers of a book without a bell can be as great as they can be.
func TestGreatNumbers(t *testing.T) {
	b := parse(t, textAll)
	b.Counts = nil
	many, l := evening.Histories(b)
	// no taking, 6 duties with 5 amounts, 15 pairs of duties with 25; and no slip, 3 slips, or 3 pairs of them
	if want := (1 + 30 + 15*25) * 7; many != want || l != api.Fine {
		t.Errorf("%d histories, bell %d, want %d", many, l, want)
	}
	b.Counts = []api.EveningCount{count(3, 0, 0)}
	gap, l := evening.Gap(b, 0)
	if want := to(7, 9999+9999+9999+8); gap != want || l != api.Fine {
		t.Errorf("Gap: %v, bell %d, want %v", gap, l, want)
	}
}

// R3: it makes no difference whether a slice is nil or has no elements.
func TestNilOrEmpty(t *testing.T) {
	none := api.EveningBook{Float: to(5, 5), Hours: []api.EveningHour{{Said: to(3, 3)}}}
	empty := api.EveningBook{Float: to(5, 5), Clerks: []string{}, Hours: []api.EveningHour{{Said: to(3, 3), Staff: []int{}}}, Wheels: []api.EveningSlip{}, Counts: []api.EveningCount{}}
	if report(empty) != report(none) {
		t.Error("empty slices and none make a difference")
	}
	for _, taken := range [][]api.EveningTaking{nil, {}} {
		for _, slips := range [][]int{nil, {}} {
			if is, l := evening.Agrees(none, taken, slips); !is || l != api.Fine {
				t.Errorf("nothing happened: %v, bell %d", is, l)
			}
		}
	}
}

// spoil changes all that a book has.
func spoil(b api.EveningBook) {
	for i := range b.Clerks {
		b.Clerks[i] = "x"
	}
	for i := range b.Hours {
		for j := range b.Hours[i].Staff {
			b.Hours[i].Staff[j] = 77
		}
		b.Hours[i] = api.EveningHour{}
	}
	for i := range b.Wheels {
		b.Wheels[i].Error = 77
	}
	for i := range b.Counts {
		b.Counts[i].After = 77
	}
}

// R4: books that are returned share no memory with those that are handed in.
func TestNoSharedMemory(t *testing.T) {
	open := with("count 0 150\n", "")
	news := func(b api.EveningBook) []api.EveningBook {
		cleared, l := evening.Clear(b, 1, 0)
		mended, l2 := evening.Mend(b, 0)
		counted, l3 := evening.Count(b, count(0, 150, 150))
		if l+l2+l3 != api.Fine {
			t.Fatal(l, l2, l3)
		}
		return []api.EveningBook{cleared, mended, counted}
	}
	// room behind the elements must not be written to
	b := parse(t, open)
	b.Clerks = append(make([]string, 0, 9), b.Clerks...)
	b.Hours = append(make([]api.EveningHour, 0, 9), b.Hours...)
	b.Wheels = append(make([]api.EveningSlip, 0, 9), b.Wheels...)
	b.Counts = append(make([]api.EveningCount, 0, 9), b.Counts...)
	counts := b.Counts[:2]
	for _, o := range news(b) {
		spoil(o)
	}
	if text, _ := evening.Print(b); text != open || counts[1] != (api.EveningCount{}) {
		t.Errorf("a result shares memory with the book: %q, %v", text, counts)
	}
	all := news(b)
	spoil(b)
	for i, want := range []string{strings.Replace(open, "31 0+1", "31 1", 1), strings.Replace(open, "wheel 1 2\n", "", 1), textE} {
		if text, _ := evening.Print(all[i]); text != want {
			t.Errorf("the book shares memory with a result: %q", text)
		}
	}
}

// R4: lists that are handed in stay as they were.
func TestNoChangedLists(t *testing.T) {
	taken, slips := takings(taking(1, 0, 1)), []int{0}
	if is, l := evening.Agrees(parse(t, textE), taken, slips); !is || l != api.Fine || show(taken, slips) != show(takings(taking(1, 0, 1)), []int{0}) {
		t.Errorf("%v, bell %d, %v, %v", is, l, taken, slips)
	}
}

// holds tells whether what really happened is a history of a book, and all that is told of it is so.
func holds(t *testing.T, b api.EveningBook, p past) {
	t.Helper()
	if is, l := evening.Agrees(b, p.takings, p.slips); !is || l != api.Fine {
		t.Fatalf("%+v: what happened is no history: %v, bell %d", b, p, l)
	}
	wrong := func(name string, i int, told any, l api.Bell) {
		t.Helper()
		t.Errorf("%+v, %v: %s %d is %v, bell %d", b, p, name, i, told, l)
	}
	for i := range b.Clerks {
		if sure, l := evening.Took(b, i); !oracle.IsSo(sure, p.ofClerk(i) > 0) || l != api.Fine {
			wrong("Took", i, sure, l)
		}
		if s, l := evening.Sums(b, i); p.ofClerk(i) < s.Low || p.ofClerk(i) > s.High || l != api.Fine {
			wrong("Sums", i, s, l)
		}
	}
	for i := range b.Hours {
		if sure, l := evening.Hour(b, i); !oracle.IsSo(sure, p.ofHour(i) > 0) || l != api.Fine {
			wrong("Hour", i, sure, l)
		}
	}
	for i := range b.Wheels {
		if sure, l := evening.Slipped(b, i); !oracle.IsSo(sure, slices.Contains(p.slips, i)) || l != api.Fine {
			wrong("Slipped", i, sure, l)
		}
	}
	if s, l := evening.Loss(b); p.loss() < s.Low || p.loss() > s.High || l != api.Fine {
		wrong("Loss", 0, s, l)
	}
	if list, l := evening.Fewest(b); len(list) > len(p.takings) || l != api.Fine {
		wrong("Fewest", 0, list, l)
	}
	if list, l := evening.Clash(b); len(list) > 0 || l != api.Fine {
		wrong("Clash", 0, list, l)
	}
	if is, l := evening.Explained(b); !is && len(p.takings) == 0 || l != api.Fine {
		wrong("Explained", 0, is, l)
	}
	if hour, clerk, left, l := evening.Ask(b); left < 1 || l != api.Fine {
		wrong("Ask", hour, []int{clerk, left}, l)
	}
}

// P7.5, P0.4: whatever was really taken, and whatever slipped, is a history, and all that is told is so.
func TestWhateverHappened(t *testing.T) {
	d := dice.Dice(6)
	taken, slipped := 0, 0
	for range 600 {
		b, real := anyBook(&d, false)
		holds(t, b, real)
		if len(real.takings) > 0 {
			taken++
		}
		if len(real.slips) > 0 {
			slipped++
		}
	}
	if taken < 100 || slipped < 100 {
		t.Errorf("something was taken only %d times, and slipped %d times", taken, slipped)
	}
}

// P7.6: all that is open is so in a history, and is not in another one; both ends of spans are those of histories; an evening that is explained needs no hands, another one does.
func TestNoOthers(t *testing.T) {
	d := dice.Dice(7)
	for i := range 300 {
		b, _ := anyBook(&d, i%2 == 0)
		// what Agrees tells to be a history
		all := oracle.Kept(plays(b), func(p past) bool { is, _ := evening.Agrees(b, p.takings, p.slips); return is })
		if n, _ := evening.Histories(b); n != len(all) {
			t.Errorf("%+v: %d histories, but %d agree", b, n, len(all))
		}
		if len(all) == 0 {
			continue
		}
		reached := func(name string, i int, sure api.Sure, is func(p past) bool) {
			t.Helper()
			if sure != oracle.Sure(all, is) {
				t.Errorf("%+v: %s %d is %d", b, name, i, sure)
			}
		}
		ends := func(name string, i int, s api.Span, number func(p past) int) {
			t.Helper()
			if s != oracle.Span(all, number) {
				t.Errorf("%+v: %s %d is %v", b, name, i, s)
			}
		}
		for i := range b.Clerks {
			sure, _ := evening.Took(b, i)
			reached("Took", i, sure, func(p past) bool { return p.ofClerk(i) > 0 })
			s, _ := evening.Sums(b, i)
			ends("Sums", i, s, func(p past) int { return p.ofClerk(i) })
			if (sure == api.Yes) != (s.Low > 0) || (sure == api.No) != (s.High == 0) {
				t.Errorf("%+v: Took %d is %d, but Sums is %v", b, i, sure, s)
			}
		}
		for i := range b.Hours {
			sure, _ := evening.Hour(b, i)
			reached("Hour", i, sure, func(p past) bool { return p.ofHour(i) > 0 })
		}
		for i := range b.Wheels {
			sure, _ := evening.Slipped(b, i)
			reached("Slipped", i, sure, func(p past) bool { return slices.Contains(p.slips, i) })
		}
		s, _ := evening.Loss(b)
		ends("Loss", 0, s, past.loss)
		explained, _ := evening.Explained(b)
		hands, _ := evening.Hands(b)
		fewest, _ := evening.Fewest(b)
		if explained != (len(hands) == 0) || explained != (len(fewest) == 0) || explained != (s.Low == 0) {
			t.Errorf("%+v: explained: %v, but hands %v, takings %v, loss %v", b, explained, hands, fewest, s)
		}
	}
}

// P7.7: if each count is of one number, takings without slips are a history just if what was taken between each two counts is a number of the gap.
func TestGaps(t *testing.T) {
	d := dice.Dice(8)
	are, others := 0, 0
	for i := range 300 {
		b, _ := anyBook(&d, i%2 == 0)
		for i := range b.Counts {
			b.Counts[i].Money.High = b.Counts[i].Money.Low
		}
		for _, p := range plays(b) {
			if len(p.slips) > 0 {
				continue
			}
			want, from := true, 0
			for i, c := range b.Counts {
				taken := p.takenBy(func(t api.EveningTaking) bool { return t.Hour >= from && t.Hour <= c.After })
				s, l := evening.Gap(b, i)
				want = want && taken >= s.Low && taken <= s.High && l == api.Fine
				from = c.After + 1
			}
			if is, l := evening.Agrees(b, p.takings, nil); is != want || l != api.Fine {
				t.Fatalf("%+v, %v: a history: %v, bell %d, by gaps %v", b, p, is, l, want)
			}
			if want {
				are++
			} else {
				others++
			}
		}
	}
	if are < 500 || others < 500 {
		t.Errorf("only %d histories, and %d others", are, others)
	}
}

// P7.8: no history has fewer takings than Fewest; fewer clerks than Hands, or as many that are a lesser list, cannot have done it alone.
func TestFewestHands(t *testing.T) {
	d := dice.Dice(9)
	many := 0
	for i := range 800 {
		b, _ := anyBook(&d, i%2 == 0)
		fewest, l := evening.Fewest(b)
		hands, l2 := evening.Hands(b)
		if l+l2 != api.Fine {
			continue
		}
		found := false
		for _, p := range pasts(b) {
			if len(p.takings) < len(fewest) {
				t.Errorf("%+v: Fewest is %v, but %v is a history", b, fewest, p)
			}
			found = found || slices.Equal(p.takings, fewest)
		}
		if !found {
			t.Errorf("%+v: Fewest is %v, but no history has these takings", b, fewest)
		}
		// with the duties of some clerks alone there is a history just if they can have done it
		for _, clerks := range oracle.Subsets(len(b.Clerks)) {
			o := clone(b)
			for i, h := range o.Hours {
				o.Hours[i].Staff = slices.DeleteFunc(h.Staff, func(clerk int) bool { return !slices.Contains(clerks, clerk) })
			}
			n, _ := evening.Histories(o)
			if slices.Equal(clerks, hands) {
				if n == 0 {
					t.Errorf("%+v: Hands is %v, but they cannot have done it", b, hands)
				}
				break
			}
			if n > 0 {
				t.Errorf("%+v: Hands is %v, but %v can have done it", b, hands, clerks)
			}
		}
		many += len(hands)
	}
	if many < 50 {
		t.Errorf("only %d hands were needed", many)
	}
}
