package audit_test

import (
	"math"
	"slices"
	"testing"

	"nosale/api"
	"nosale/audit"
	"nosale/dice"
)

// P10.2: Play returns the bell of each entry, and the file in the end; Stands the numbers of those that are in force.
func TestPlay(t *testing.T) {
	b := file(t)
	coins, goods := entry(api.AuditCoins, 2, 0, 2, 2), entry(api.AuditGoods, 1, 0, 6, 6)
	went, not := entry(api.AuditSale, 1, 1, 0, 0), entry(api.AuditSale, 1, 0, 0, 0)
	none := api.AuditEntry{}
	odd := api.AuditEntry{Kind: 14}
	fix := entry(api.AuditFix, 1, 0, 12, 12)
	read1, read2, read3 := ring(1, 0, 19, 0), ring(1, 0, 0, 1), ring(1, 0, 0, 2)
	for _, x := range []struct {
		entries []api.AuditEntry
		bells   []api.Bell
		force   []int
		parts   []int
	}{
		{nil, nil, nil, nil},
		{journal(none), []api.Bell{api.Fine}, []int{1}, nil},
		{journal(coins, goods), []api.Bell{api.Fine, api.Fine}, []int{1, 2}, []int{changePart, stockPart}},
		{journal(odd, coins), []api.Bell{api.Bound, api.Fine}, []int{2}, []int{changePart}},
		{journal(went, not), []api.Bell{api.Fine, api.Twice}, []int{1}, []int{changePart}},
		// corrections
		{journal(read1, instead(1, read2), instead(1, read3)), []api.Bell{api.Fine, api.Fine, api.Odds}, []int{2}, []int{wheelsPart}},
		{journal(read3, instead(1, read1), read1), []api.Bell{api.Odds, api.Missing, api.Fine}, []int{3}, []int{wheelsPart}},
		{journal(went, instead(1, not), instead(1, none), not), []api.Bell{api.Fine, api.Fine, api.Fine, api.Fine}, []int{3, 4}, []int{changePart}},
		{journal(went, instead(1, none), instead(1, went)), []api.Bell{api.Fine, api.Fine, api.Fine}, []int{3}, []int{changePart}},
		{journal(coins, instead(1, goods)), []api.Bell{api.Fine, api.Fine}, []int{2}, []int{stockPart}},
		{journal(none, goods, instead(1, coins)), []api.Bell{api.Fine, api.Fine, api.Fine}, []int{3, 2}, []int{changePart, stockPart}},
		// what is corrected is the number of an entry with For 0 that stands, and is there already
		{journal(instead(1, none)), []api.Bell{api.Missing}, nil, nil},
		{journal(instead(2, coins), coins), []api.Bell{api.Missing, api.Fine}, []int{2}, []int{changePart}},
		{journal(coins, instead(3, none), none), []api.Bell{api.Fine, api.Missing, api.Fine}, []int{1, 3}, []int{changePart}},
		{journal(coins, instead(1, none), instead(2, goods)), []api.Bell{api.Fine, api.Fine, api.Missing}, []int{2}, nil},
		{journal(coins, odd, instead(2, none)), []api.Bell{api.Fine, api.Bound, api.Missing}, []int{1}, []int{changePart}},
		{journal(coins, instead(-1, none), instead(math.MaxInt, none), instead(math.MinInt, none)), []api.Bell{api.Fine, api.Missing, api.Missing, api.Missing}, []int{1}, []int{changePart}},
		{journal(odd, instead(1, odd)), []api.Bell{api.Bound, api.Missing}, nil, nil},
		// the bells of a correction
		{journal(coins, instead(1, odd)), []api.Bell{api.Fine, api.Bound}, []int{1}, []int{changePart}},
		{journal(coins, instead(1, api.AuditEntry{A: 1})), []api.Bell{api.Fine, api.Shape}, []int{1}, []int{changePart}},
		{journal(coins, instead(1, api.AuditEntry{Day: 400})), []api.Bell{api.Fine, api.Bound}, []int{1}, []int{changePart}},
		// the others are done again: the first bell of them is that of the correction
		{journal(none, went, goods, instead(1, not)), []api.Bell{api.Fine, api.Fine, api.Fine, api.Twice}, []int{1, 2, 3}, []int{changePart, stockPart}},
		{journal(none, goods, went, instead(1, entry(api.AuditGoods, 1, 0, 5, 5)), instead(1, not)), []api.Bell{api.Fine, api.Fine, api.Fine, api.Odds, api.Twice}, []int{1, 2, 3}, []int{changePart, stockPart}},
		{journal(went, none, instead(2, not), instead(1, not), instead(2, went)), []api.Bell{api.Fine, api.Fine, api.Twice, api.Fine, api.Twice}, []int{4, 2}, []int{changePart}},
		// a fix that others need cannot be taken back
		{journal(fix, entry(api.AuditFix, 0, 0, 21, 21), instead(1, none), fix), []api.Bell{api.Fine, api.Count, api.Fine, api.Fine}, []int{3, 4}, []int{salesPart}},
	} {
		bells, now, l := audit.Play(b, x.entries)
		if !slices.Equal(bells, x.bells) || l != api.Fine {
			t.Errorf("%+v: bells %v, want %v, bell %d", x.entries, bells, x.bells, l)
		}
		if differ, l := audit.Differ(b, now); !slices.Equal(differ, x.parts) || l != api.Fine {
			t.Errorf("%+v: the parts %v are changed, want %v, bell %d", x.entries, differ, x.parts, l)
		}
		if force, l := audit.Stands(b, x.entries); !slices.Equal(force, x.force) || l != api.Fine {
			t.Errorf("%+v: in force are %v, want %v, bell %d", x.entries, force, x.force, l)
		}
	}
	if got := written(t, b); got != textF() {
		t.Errorf("F was changed: %q", got)
	}
}

// P10.2: Order is the bell of an entry whose day is below that of the entry before it, whatever became of that; it comes first.
func TestDays(t *testing.T) {
	b := file(t)
	none := api.AuditEntry{}
	for _, x := range []struct {
		entries []api.AuditEntry
		bells   []api.Bell
		force   []int
	}{
		{journal(at(5, none), at(5, none), at(6, none)), []api.Bell{api.Fine, api.Fine, api.Fine}, []int{1, 2, 3}},
		{journal(at(5, none), at(4, none), at(4, none)), []api.Bell{api.Fine, api.Order, api.Fine}, []int{1, 3}},
		{journal(at(5, none), at(4, none), at(3, none), at(5, none)), []api.Bell{api.Fine, api.Order, api.Order, api.Fine}, []int{1, 4}},
		{journal(at(366, none), at(367, none), at(366, none)), []api.Bell{api.Fine, api.Bound, api.Order}, []int{1}},
		{journal(at(-1, none), none, at(-1, none)), []api.Bell{api.Bound, api.Fine, api.Order}, []int{2}},
		{journal(at(math.MaxInt, none), at(math.MinInt, none), none), []api.Bell{api.Bound, api.Order, api.Fine}, []int{3}},
		{journal(at(math.MinInt, none), at(math.MaxInt, none)), []api.Bell{api.Bound, api.Bound}, nil},
		// before all other bells
		{journal(at(2, none), at(1, instead(7, none))), []api.Bell{api.Fine, api.Order}, []int{1}},
		{journal(at(2, none), at(1, api.AuditEntry{Kind: 14})), []api.Bell{api.Fine, api.Order}, []int{1}},
		{journal(at(2, none), at(1, instead(1, none)), at(2, instead(1, none))), []api.Bell{api.Fine, api.Order, api.Fine}, []int{3}},
		// a correction has a day of its own
		{journal(at(1, none), at(3, none), at(7, instead(1, none)), at(6, none)), []api.Bell{api.Fine, api.Fine, api.Fine, api.Order}, []int{3, 2}},
	} {
		bells, _, l := audit.Play(b, x.entries)
		force, l2 := audit.Stands(b, x.entries)
		if !slices.Equal(bells, x.bells) || !slices.Equal(force, x.force) || l+l2 != api.Fine {
			t.Errorf("%+v: bells %v, in force %v, want %v, %v, bells %d, %d", x.entries, bells, force, x.bells, x.force, l, l2)
		}
	}
}

// P10.2: Till plays entries up to the first one whose day is above a day.
func TestTill(t *testing.T) {
	b := file(t)
	coins, goods, way := entry(api.AuditCoins, 2, 0, 2, 2), entry(api.AuditGoods, 1, 0, 6, 6), entry(api.AuditWay, 0, 0, 2, 2)
	entries := journal(at(3, coins), at(5, goods), at(4, way), at(7, instead(1, api.AuditEntry{})))
	for _, x := range []struct {
		entries []api.AuditEntry
		day     int
		parts   []int
		want    api.Bell
	}{
		{entries, 0, nil, api.Fine}, {entries, 2, nil, api.Fine}, {entries, 3, []int{changePart}, api.Fine},
		// the second one is above this day, and the third one behind it
		{entries, 4, []int{changePart}, api.Fine}, {entries, 5, []int{changePart, stockPart}, api.Fine}, {entries, 6, []int{changePart, stockPart}, api.Fine}, {entries, 7, []int{stockPart}, api.Fine}, {entries, 366, []int{stockPart}, api.Fine},
		{entries, 367, nil, api.Bound}, {entries, -1, nil, api.Bound}, {entries, math.MinInt, nil, api.Bound}, {entries, math.MaxInt, nil, api.Bound}, {nil, 0, nil, api.Fine}, {nil, 367, nil, api.Bound},
		// days that are none
		{journal(at(-9, none()), coins), 0, []int{changePart}, api.Fine}, {journal(at(400, none()), at(500, coins), at(500, none())), 366, nil, api.Fine}, {journal(coins, at(400, none()), goods), 366, []int{changePart}, api.Fine},
	} {
		o, l := audit.Till(b, x.entries, x.day)
		if l != x.want {
			t.Errorf("%+v, %d: bell %d, want %d", x.entries, x.day, l, x.want)
		}
		if l != api.Fine {
			if show(o) != show(api.AuditBook{}) {
				t.Errorf("%d: a file together with a bell", x.day)
			}
			continue
		}
		if differ, l := audit.Differ(b, o); !slices.Equal(differ, x.parts) || l != api.Fine {
			t.Errorf("%+v, %d: the parts %v are changed, want %v, bell %d", x.entries, x.day, differ, x.parts, l)
		}
	}
}

// none returns an entry that does nothing.
func none() api.AuditEntry { return api.AuditEntry{} }

// P10.2, P10.8: whatever is played, it is what becomes of entries one by one: those in force are done from the beginning on.
func TestPlayOneByOne(t *testing.T) {
	d := dice.Dice(4)
	bells, replaced := map[api.Bell]int{}, 0
	for i := range 600 {
		b := parse(t, anyText(&d, i%5 == 0))
		entries := anyJournal(&d, b, d.Roll(api.MaxAuditEntries+1))
		want := playOf(b, entries)
		got, now, l := audit.Play(b, entries)
		force, l2 := audit.Stands(b, entries)
		if !slices.Equal(got, want.bells) || show(now) != show(want.now) || !slices.Equal(force, want.force) || l+l2 != api.Fine {
			t.Fatalf("%+v, %+v: bells %v, %d, %d, in force %v, %+v, want %v, %v, %+v", b, entries, got, l, l2, force, now, want.bells, want.force, want.now)
		}
		day := d.Roll(20)
		many := 0
		for many < len(entries) && entries[many].Day <= day {
			many++
		}
		if o, l := audit.Till(b, entries, day); show(o) != show(playOf(b, entries[:many]).now) || l != api.Fine {
			t.Errorf("%+v, %+v: on the day %d: %+v, bell %d", b, entries, day, o, l)
		}
		for _, l := range got {
			bells[l]++
		}
		if slices.ContainsFunc(force, func(n int) bool { return entries[n-1].For != 0 }) {
			replaced++
		}
	}
	for _, l := range []api.Bell{api.Fine, api.Bound, api.Count, api.Shape, api.Twice, api.Missing, api.Order, api.Odds} {
		if bells[l] < 20 {
			t.Errorf("the bell %d came %d times", l, bells[l])
		}
	}
	if replaced < 50 {
		t.Errorf("only %d journals had corrections in force", replaced)
	}
}
