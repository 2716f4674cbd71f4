package change_test

import (
	"math"
	"strings"
	"testing"

	"nosale/api"
	"nosale/change"
	"nosale/dice"
	"nosale/promises"
)

// newsCase is a book of which more is known, and its text then.
type newsCase struct {
	text, want string
	l          api.Bell
}

// is compares the book that a function returned with what is expected; old is the one that was handed in.
func (x newsCase) is(t *testing.T, old, b api.ChangeBook, l api.Bell, asked ...any) {
	t.Helper()
	layer().News(t, promises.Case{Text: x.text, Want: x.want, Bell: x.l}, old, b, l, asked...)
}

// P4.4: See returns the book in which a sale was seen.
func TestSee(t *testing.T) {
	seen := func(sale, word string) string { return strings.Replace(textD, sale+" open", sale+" "+word, 1) }
	for _, x := range []struct {
		newsCase
		sale int
		went bool
	}{
		{newsCase{textD, seen("2 1+0+0", "refused"), api.Fine}, 1, false}, {newsCase{textD, seen("2 1+0+0", "went"), api.Fine}, 1, true}, {newsCase{textD, seen("1 1+0+0", "refused"), api.Fine}, 0, false}, {newsCase{textD, seen("0+0+1", "went"), api.Fine}, 2, true}, {newsCase{textD, "", api.Odds}, 2, false},
		// not both of the first two are refused
		{newsCase{seen("1 1+0+0", "refused"), "", api.Odds}, 1, false}, {newsCase{seen("1 1+0+0", "refused"), strings.Replace(seen("1 1+0+0", "refused"), "2 1+0+0 open", "2 1+0+0 went", 1), api.Fine}, 1, true},
		{newsCase{seen("0+0+1", "went"), "", api.Twice}, 2, true}, {newsCase{seen("0+0+1", "went"), "", api.Twice}, 2, false}, {newsCase{seen("1 1+0+0", "refused"), "", api.Twice}, 0, true}, {newsCase{textD, "", api.Missing}, 3, true}, {newsCase{textD, "", api.Missing}, -1, false}, {newsCase{textD, "", api.Missing}, math.MaxInt, true}, {newsCase{textBare, "", api.Missing}, 0, true},
		// without a history it is Twice first, and otherwise Odds
		{newsCase{textNever, "", api.Odds}, 0, true}, {newsCase{strings.Replace(textNever, "0+0+1 open", "0+0+1 went", 1), "", api.Twice}, 2, true}, {newsCase{textNever, "", api.Missing}, 3, true},
	} {
		old := parse(t, x.text)
		b, l := change.See(old, x.sale, x.went)
		x.is(t, old, b, l, x.sale, x.went)
	}
}

// P4.4: Know returns the book with one more first, as the last one.
func TestKnow(t *testing.T) {
	const three = textD + "first 0 1\nfirst 0 1\nfirst 0 2\n"
	for _, x := range []struct {
		newsCase
		f api.ChangeFirst
	}{
		{newsCase{textD, textD + "first 2 0\n", api.Fine}, first(2, 0)}, {newsCase{textD + "first 2 0\n", textD + "first 2 0\nfirst 0 1\n", api.Fine}, first(0, 1)}, {newsCase{three, three + "first 1 2\n", api.Fine}, first(1, 2)}, {newsCase{textD + "count 2 2\n", textD + "first 1 0\ncount 2 2\n", api.Fine}, first(1, 0)},
		{newsCase{textD, "", api.Odds}, first(1, 1)}, {newsCase{textD + "first 0 1\n", "", api.Odds}, first(1, 0)}, {newsCase{textD + "first 0 1\nfirst 1 2\n", "", api.Odds}, first(2, 0)}, {newsCase{textD + "count 2 2\n", "", api.Odds}, first(0, 1)}, {newsCase{textClash, "", api.Odds}, first(0, 1)},
		{newsCase{textD, "", api.Missing}, first(3, 0)}, {newsCase{textD, "", api.Missing}, first(0, 3)}, {newsCase{textD, "", api.Missing}, first(-1, 0)}, {newsCase{textD, "", api.Missing}, first(math.MaxInt, math.MinInt)}, {newsCase{textBare, "", api.Missing}, first(0, 0)}, {newsCase{textNever, "", api.Missing}, first(0, 3)},
		{newsCase{three + "first 1 2\n", "", api.Count}, first(0, 1)}, {newsCase{three + "first 1 2\n", "", api.Count}, first(0, 9)},
	} {
		old := parse(t, x.text)
		b, l := change.Know(old, x.f)
		x.is(t, old, b, l, x.f)
	}
}

// P4.4: Note returns the book with one more count, as the last one.
func TestNote(t *testing.T) {
	for _, x := range []struct {
		newsCase
		c api.ChangeCount
	}{
		{newsCase{textD, textD + "count 0 1..2\n", api.Fine}, count(0, 1, 2)}, {newsCase{textD, textD + "count 2 2\n", api.Fine}, count(2, 2, 2)}, {newsCase{textD, textD + "count 1 0..30\n", api.Fine}, count(1, 0, 30)}, {newsCase{textD + "count 2 2\n", textD + "count 2 2\ncount 0 0..1\n", api.Fine}, count(0, 0, 1)}, {newsCase{textBare, textBare + "count 0 1\n", api.Fine}, count(0, 1, 1)},
		{newsCase{textD, "", api.Odds}, count(1, 1, 2)}, {newsCase{textD, "", api.Odds}, count(0, 3, 30)}, {newsCase{textD + "count 2 2\n", "", api.Odds}, count(0, 2, 2)}, {newsCase{textNever, "", api.Odds}, count(0, 0, 30)},
		{newsCase{textD, "", api.Missing}, count(3, 0, 0)}, {newsCase{textD, "", api.Missing}, count(-1, 2, 1)}, {newsCase{textD, "", api.Bound}, count(0, 1, 31)}, {newsCase{textD, "", api.Bound}, count(0, -1, 1)}, {newsCase{textD, "", api.Bound}, count(0, 2, 1)}, {newsCase{textD, "", api.Bound}, count(0, math.MinInt, math.MaxInt)}, {newsCase{textNever, "", api.Bound}, count(0, 2, 1)},
		{newsCase{textAll, "", api.Count}, count(0, 0, 30)}, {newsCase{textAll, "", api.Count}, count(9, 2, 1)},
	} {
		old := parse(t, x.text)
		b, l := change.Note(old, x.c)
		x.is(t, old, b, l, x.c)
	}
}

// P4.4: what becomes known of a book is what the oracle leaves of it.
func TestNewsLikeOracle(t *testing.T) {
	d := dice.Dice(4)
	odd := 0
	for i := range 300 {
		b, _ := anyBook(&d, i%2 == 0)
		ran := plays(b)
		same := func(name string, o api.ChangeBook, l api.Bell, want api.ChangeBook, values ...any) {
			t.Helper()
			bell := api.Fine
			if len(kept(want, ran)) == 0 {
				want, bell = api.ChangeBook{}, api.Odds
				odd++
			}
			if show(o) != show(want) || l != bell {
				t.Errorf("%+v: %s %v: %+v, bell %d, want %+v, %d", b, name, values, o, l, want, bell)
			}
		}
		for sale, s := range b.Sales {
			for _, went := range []bool{false, true} {
				if s.Seen != api.Open {
					continue
				}
				want := clone(b)
				want.Sales[sale].Seen = map[bool]api.Sure{false: api.No, true: api.Yes}[went]
				o, l := change.See(b, sale, went)
				same("See", o, l, want, sale, went)
			}
			if f := first(sale, d.Roll(len(b.Sales))); len(b.Firsts) < api.MaxChangeFirsts {
				want := clone(b)
				want.Firsts = append(want.Firsts, f)
				o, l := change.Know(b, f)
				same("Know", o, l, want, f)
			}
		}
		if c := count(d.Roll(len(b.Kinds)), d.Roll(3), 3+d.Roll(3)); len(b.Counts) < api.MaxChangeCounts {
			want := clone(b)
			want.Counts = append(want.Counts, c)
			o, l := change.Note(b, c)
			same("Note", o, l, want, c)
		}
	}
	if odd < 200 {
		t.Errorf("only %d news were odd", odd)
	}
}
