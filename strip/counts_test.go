package strip_test

import (
	"slices"
	"strings"
	"testing"

	"nosale/api"
	"nosale/strip"
)

// P2.3: Clash returns the fewest counts that alone have no history, and of several such lists the least one.
func TestClash(t *testing.T) {
	const head = "strip 99 1 0 2 1\narticle 1 25\narticle 2 40\ntorn 0..2\n"
	for _, x := range []struct {
		text string
		want []int
		l    api.Bell
	}{
		{textR, nil, api.Fine},
		{head, nil, api.Fine},
		{textOdd, nil, api.Short},
		{strings.TrimSuffix(textOdd, "all 1\n"), nil, api.Short},
		{textOdd + "all 2\n", nil, api.Short},
		{head + "all 3\n", []int{0}, api.Fine},
		{head + "all 0..9999\nall 3\n", []int{1}, api.Fine},
		{head + "all 3\nall 4\n", []int{0}, api.Fine},
		{textClash, []int{1, 3}, api.Fine},
		// three that clash, no two of which do
		{head + "all 2\nsold 0 0..1\nsold 1 0\n", []int{0, 1, 2}, api.Fine},
		{head + "sold 0 0..1\nall 0..2\nsold 1 0\nall 2\n", []int{0, 2, 3}, api.Fine},
		// a single one is less than two with lesser indexes
		{head + "all 1\nall 2\nmade 0 9\n", []int{2}, api.Fine},
		// of two pairs the one with the lesser indexes
		{head + "all 2\nsold 0 0\nsold 1 0..1\nall 1\n", []int{0, 3}, api.Fine},
		{head + "sold 0 2\nsold 1 2\nall 2\nsold 1 1\n", []int{0, 1}, api.Fine},
		{head + "all 1\nsold 0 1\nall 0..1\nsold 1 1\n", []int{0, 1, 3}, api.Fine},
	} {
		if list, l := strip.Clash(book(t, x.text)); !slices.Equal(list, x.want) || l != x.l {
			t.Errorf("%q: %v, bell %d, want %v, %d", x.text, list, l, x.want, x.l)
		}
	}
}

// P2.3: Ask returns the first count that leaves the fewest histories.
func TestAsk(t *testing.T) {
	const one = "strip 99 1 0 2 1\n"
	const two = "strip 99 1 0 2 2\n"
	for _, x := range []struct {
		text    string
		kind    api.StripKind
		a, left int
		l       api.Bell
	}{
		{textR, api.StripTook, 1, 2, api.Fine},
		{textBare, -1, 0, 1, api.Fine},
		{textOdd, 0, 0, 0, api.Odds},
		{textClash, 0, 0, 0, api.Odds},
		// departments in their order, not in that of the articles
		{one + "article 5 10\narticle 2 10\ntorn 1\n", api.StripTook, 2, 1, api.Fine},
		{one + "article 5 10\narticle 2 10\narticle 5 20\ntorn 1\n", api.StripTook, 5, 1, api.Fine},
		// the clerk only
		{two + "article 5 10\ntorn 1\n", api.StripMade, 0, 1, api.Fine},
		{two + "article 5 10\ntorn 1\nmade 1 0\n", -1, 0, 1, api.Fine},
		// which article was sold is best, because departments take the same for two of one as for one of another
		{one + "article 5 10\narticle 5 20\narticle 5 30\ntorn 2\n", api.StripTook, 5, 3, api.Fine},
		{one + "article 5 20\narticle 5 10\ntorn 0..2\n", api.StripTook, 5, 2, api.Fine},
		{one + "article 5 20\narticle 5 10\ntorn 1..2\nsold 1 0..1\n", api.StripTook, 5, 2, api.Fine},
		{one + "article 5 20\narticle 5 10\ntorn 1..2\ntook 5 20\n", api.StripMade, 0, 1, api.Fine},
		{one + "article 5 20\narticle 5 10\narticle 5 30\ntorn 2\ntook 5 40\n", api.StripSold, 0, 2, api.Fine},
		{two + "article 5 10\nentry ?? ??? ?? -1 0\ntorn 0..1\nmade 1 0\n", api.StripTook, 5, 1, api.Fine},
		// how many there are: none, eight of one, or nine of two
		{two + "article 1 76\narticle 9 99\ntorn 0..1\ntorn 0..1\nmade 0 0..1\nsold 1 0..1\n", api.StripAll, 0, 9, api.Fine},
		// two orders of the same sales are not told apart
		{one + "article 5 20\narticle 6 10\ntorn 2\nsold 0 1\n", -1, 0, 2, api.Fine},
		// a full book is asked, too
		{one + "article 5 10\narticle 2 10\ntorn 1\nall 1\nall 1\nall 1\nall 1\n", api.StripTook, 2, 1, api.Fine},
	} {
		kind, a, left, l := strip.Ask(book(t, x.text))
		if kind != x.kind || a != x.a || left != x.left || l != x.l {
			t.Errorf("%q: %d, %d, %d, bell %d, want %d, %d, %d, %d", x.text, kind, a, left, l, x.kind, x.a, x.left, x.l)
		}
	}
}

// P2.3: Note adds a count at the end.
func TestNote(t *testing.T) {
	full := textR + "all 3\nall 3\nall 3\n"
	for i, x := range []struct {
		text string
		c    api.StripCount
		want string
		l    api.Bell
	}{
		{textR, api.StripCount{Kind: api.StripMade, A: 0, Many: to(2, 2)}, textR + "made 0 2\n", api.Fine},
		{textR, api.StripCount{Kind: api.StripAll, Many: to(0, 9999)}, textR + "all 0..9999\n", api.Fine},
		{textR, api.StripCount{Kind: api.StripTook, A: 1, Many: to(60, 110)}, textR + "took 1 60..110\n", api.Fine},
		{textR, api.StripCount{Kind: api.StripSold, A: 1, Many: to(0, 0)}, "", api.Odds},
		{textR, api.StripCount{Kind: api.StripAll, Many: to(4, 9)}, "", api.Odds},
		{textR, api.StripCount{Kind: api.StripAll, A: 1}, "", api.Bound},
		{textR, api.StripCount{Kind: 4}, "", api.Bound},
		{textR, api.StripCount{Kind: -1, A: 9}, "", api.Bound},
		{textR, api.StripCount{Kind: api.StripSold, A: 3, Many: to(1, 0)}, "", api.Missing},
		{textR, api.StripCount{Kind: api.StripSold, A: 2, Many: to(1, 0)}, "", api.Bound},
		{full, api.StripCount{Kind: api.StripAll, Many: to(3, 3)}, "", api.Count},
		// that there are too many counts is looked at before them
		{full, api.StripCount{Kind: api.StripSold, A: 3}, "", api.Count},
		{full, api.StripCount{Kind: 4}, "", api.Count},
		{textOdd, api.StripCount{Kind: api.StripAll, Many: to(1, 1)}, "", api.Odds},
		{textOdd, api.StripCount{Kind: api.StripMade, A: 2}, "", api.Missing},
		{textClash, api.StripCount{Kind: api.StripAll, Many: to(1, 1)}, "", api.Count},
	} {
		o, l := strip.Note(book(t, x.text), x.c)
		if text, _ := strip.Print(o); text != x.want || l != x.l {
			t.Errorf("case %d: %q, bell %d, want %d", i, text, l, x.l)
		}
		if l != api.Fine && show(o) != show(api.StripBook{}) {
			t.Errorf("case %d: %+v together with a bell", i, o)
		}
	}
}

// P2.3: Read puts together what can be read of an entry.
func TestRead(t *testing.T) {
	set := func(number, amount, total string, dept, clerk int) api.StripItem {
		return api.StripItem{Number: number, Amount: amount, Total: total, Dept: dept, Clerk: clerk}
	}
	const old = "entry ?1 0?0 0?? -1 1\n"
	olds := map[int]string{0: "entry 98 025 975 1 0\n", 2: old}
	for i, x := range []struct {
		item int
		e    api.StripItem
		want string
		l    api.Bell
	}{
		{2, set("??", "???", "???", -1, -1), old, api.Fine},
		{2, set("?1", "0?0", "0??", -1, 1), old, api.Fine},
		{2, set("0?", "???", "???", -1, -1), "entry 01 0?0 0?? -1 1\n", api.Fine},
		{2, set("01", "?4?", "?4?", 1, -1), "entry 01 040 04? 1 1\n", api.Fine},
		{2, set("01", "040", "040", 1, 1), "entry 01 040 040 1 1\n", api.Fine},
		// contradictions
		{2, set("?2", "???", "???", -1, -1), "", api.Odds},
		{2, set("??", "1??", "???", -1, -1), "", api.Odds},
		{2, set("??", "??5", "???", -1, -1), "", api.Odds},
		{2, set("??", "???", "9??", -1, -1), "", api.Odds},
		{2, set("??", "???", "???", -1, 0), "", api.Odds},
		{0, set("??", "???", "???", 2, -1), "", api.Odds},
		{0, set("98", "025", "975", 1, 0), "entry 98 025 975 1 0\n", api.Fine},
		{0, set("89", "???", "???", -1, -1), "", api.Odds},
		// no history
		{2, set("9?", "???", "???", -1, -1), "", api.Odds},
		{2, set("??", "?2?", "???", -1, -1), "", api.Odds},
		{2, set("??", "???", "??1", -1, -1), "", api.Odds},
		{2, set("??", "???", "???", 2, -1), "", api.Odds},
		{2, set("??", "???", "???", 9, -1), "", api.Odds},
		// bells, in order
		{1, set("", "", "", -9, -9), "", api.Missing},
		{3, api.StripItem{Torn: true}, "", api.Missing},
		{2, api.StripItem{Torn: true}, "", api.Shape},
		{2, api.StripItem{Torn: true, Many: to(2, 1)}, "", api.Shape},
		{2, api.StripItem{Many: to(0, 1)}, "", api.Bound},
		{2, api.StripItem{}, "", api.Shape},
		{2, set("1", "???", "???", -1, -1), "", api.Shape},
		{2, set("??", "???", "????", -1, -1), "", api.Shape},
		{2, set("??", "?x?", "???", -9, -1), "", api.Shape},
		{2, set("22", "999", "999", 10, 0), "", api.Bound},
		{2, set("22", "???", "???", -2, 0), "", api.Bound},
		{2, set("22", "???", "???", -1, 2), "", api.Bound},
		{2, set("22", "???", "???", -1, -2), "", api.Bound},
	} {
		want := ""
		if x.l == api.Fine {
			want = strings.Replace(textR, olds[x.item], x.want, 1)
		}
		o, l := strip.Read(book(t, textR), x.item, x.e)
		if text, _ := strip.Print(o); text != want || l != x.l {
			t.Errorf("case %d: %q, bell %d, want %q, %d", i, text, l, want, x.l)
		}
		if l != api.Fine && show(o) != show(api.StripBook{}) {
			t.Errorf("case %d: %+v together with a bell", i, o)
		}
	}
}

// P2.3: of a department and a clerk, whatever can be read on either side is kept.
func TestReadDeptAndClerk(t *testing.T) {
	const head = "strip 9 1 0 1 2\narticle 0 1\narticle 1 1\n"
	for _, x := range []struct{ old, next, want int }{{-1, -1, -1}, {-1, 0, 0}, {-1, 1, 1}, {0, -1, 0}, {1, -1, 1}, {0, 0, 0}, {1, 1, 1}} {
		b := book(t, head+"entry ? ??? ? -1 -1\n")
		b.Items[0].Dept, b.Items[0].Clerk = x.old, x.old
		e := blurred(b)
		e.Dept, e.Clerk = x.next, x.next
		o, l := strip.Read(b, 0, e)
		if l != api.Fine || o.Items[0].Dept != x.want || o.Items[0].Clerk != x.want {
			t.Errorf("%v: %+v, bell %d", x, o, l)
		}
	}
	for _, x := range []struct{ old, next int }{{0, 1}, {1, 0}} {
		b := book(t, head+"entry ? ??? ? -1 -1\n")
		b.Items[0].Dept = x.old
		e := blurred(b)
		e.Dept = x.next
		if _, l := strip.Read(b, 0, e); l != api.Odds {
			t.Errorf("two departments: bell %d", l)
		}
		b.Items[0].Dept, b.Items[0].Clerk, e.Dept, e.Clerk = -1, x.old, -1, x.next
		if _, l := strip.Read(b, 0, e); l != api.Odds {
			t.Errorf("two clerks: bell %d", l)
		}
	}
}
