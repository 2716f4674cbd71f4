package audit_test

import (
	"math"
	"strings"
	"testing"

	"nosale/api"
	"nosale/audit"
	"nosale/dice"
)

// P10.2: Do returns the file in which an entry is done; of each kind its part is as its chapter says, and the others are as they were.
func TestDo(t *testing.T) {
	b := file(t)
	for _, x := range news() {
		o, l := audit.Do(b, x.e)
		if got := written(t, o); got != textWith(x.part, x.text) || l != api.Fine {
			t.Errorf("%+v: bell %d, %q", x.e, l, got)
		}
	}
	if got := written(t, b); got != textF() {
		t.Errorf("F was changed: %q", got)
	}
	// money is counted behind an hour behind which nothing was counted
	text := textWith(eveningPart, strings.Replace(textE, "count 1 177\n", "", 1))
	o, l := audit.Do(parse(t, text), entry(api.AuditMoney, 1, 0, 177, 178))
	if got := written(t, o); got != textWith(eveningPart, strings.Replace(textE, "177", "177..178", 1)) || l != api.Fine {
		t.Errorf("money: bell %d, %q", l, got)
	}
	// nothing
	for _, day := range []int{0, 1, 366} {
		o, l := audit.Do(b, at(day, api.AuditEntry{}))
		if got := written(t, o); got != textF() || l != api.Fine {
			t.Errorf("nothing on the day %d: bell %d, %q", day, l, got)
		}
	}
	// what is signed, and went, are both ways told by B
	o, l = audit.Do(parse(t, textWith(salesPart, strings.Replace(textS, "0 30 open", "0 20..22 open", 1))), entry(api.AuditSign, 3, 1, 0, 0))
	if want := textWith(salesPart, strings.Replace(textS, "0 30 open", "0 20..22 yes", 1)); l != api.Fine || written(t, o) != want {
		t.Errorf("signed: bell %d, %q", l, written(t, o))
	}
}

// P10.2, P0.2: the bells of an entry, in their order.
func TestDoBells(t *testing.T) {
	b := file(t)
	for _, x := range []struct {
		e    api.AuditEntry
		want api.Bell
	}{
		// kinds and days
		{api.AuditEntry{Kind: -1}, api.Bound}, {api.AuditEntry{Kind: 14}, api.Bound}, {api.AuditEntry{Kind: math.MaxInt}, api.Bound}, {api.AuditEntry{Kind: math.MinInt}, api.Bound}, {api.AuditEntry{Day: -1}, api.Bound}, {api.AuditEntry{Day: 366}, api.Fine}, {api.AuditEntry{Day: 367}, api.Bound}, {api.AuditEntry{Day: math.MaxInt}, api.Bound}, {api.AuditEntry{Day: math.MinInt}, api.Bound},
		// corrections
		{api.AuditEntry{For: 1}, api.Missing}, {api.AuditEntry{For: -1}, api.Missing}, {api.AuditEntry{For: math.MaxInt}, api.Missing}, {api.AuditEntry{For: 1, Kind: 14}, api.Missing}, {api.AuditEntry{For: 1, Day: 367}, api.Missing}, {api.AuditEntry{For: 1, A: 1}, api.Missing},
		// what decides first
		{api.AuditEntry{Kind: 14, A: 1}, api.Bound}, {api.AuditEntry{Day: 367, S: "x"}, api.Bound}, {api.AuditEntry{Kind: api.AuditSale, B: 2, S: "x"}, api.Shape}, {api.AuditEntry{Kind: api.AuditSale, A: 9, B: 2}, api.Bound}, {api.AuditEntry{Kind: api.AuditSale, A: 9, B: 1}, api.Missing}, {api.AuditEntry{Kind: api.AuditSale, A: 2, B: -1}, api.Bound}, {api.AuditEntry{Kind: api.AuditSale, A: 2, B: math.MaxInt}, api.Bound}, {api.AuditEntry{Kind: api.AuditSign, A: 0, B: 2}, api.Bound}, {api.AuditEntry{Kind: api.AuditSign, A: 0, B: 1}, api.Missing}, {api.AuditEntry{Kind: api.AuditSign, A: 3, B: -1}, api.Bound}, {api.AuditEntry{Kind: api.AuditSign, A: 3, B: 1}, api.Odds},
		// what is done
		{ring(2, 0, 0, 0), api.Missing}, {ring(-1, 0, 0, 0), api.Missing}, {ring(1), api.Count}, {ring(1, 0, 0), api.Count}, {ring(1, 12, 0, 0), api.Bound}, {ring(1, -1, -1, -1), api.Fine}, {ring(1, 0, 0, 2), api.Odds}, {ring(0, 11, 19, 0), api.Fine}, {ring(0, 11, 18, 0), api.Odds},
		{entry(api.AuditStrip, 4, 0, 0, 9), api.Bound}, {entry(api.AuditStrip, 3, 1, 0, 9), api.Bound}, {entry(api.AuditStrip, 0, 3, 0, 9), api.Missing}, {entry(api.AuditStrip, 3, 0, 3, 3), api.Fine}, {entry(api.AuditStrip, 3, 0, 4, 4), api.Odds}, {entry(api.AuditStrip, 3, 0, 4, 3), api.Bound},
		{entry(api.AuditPrice, 2, 0, 0, 9), api.Missing}, {entry(api.AuditPrice, 0, 0, 0, 100000), api.Bound}, {entry(api.AuditPrice, 0, 0, 341, 348), api.Odds}, {entry(api.AuditPrice, 1, 0, 560, 999), api.Odds},
		{hang("", 0, 9), api.Count}, {hang("MAKEPR", 0, 9), api.Count}, {hang("M A", 0, 9), api.Shape}, {hang("M", 9, 0), api.Bound}, {hang("M", 2, 9), api.Odds}, {hang("M", 0, 9), api.Fine},
		{entry(api.AuditSale, 3, 0, 0, 0), api.Missing}, {entry(api.AuditSale, 2, 0, 0, 0), api.Odds}, {entry(api.AuditSale, 2, 1, 0, 0), api.Fine},
		{entry(api.AuditCoins, 3, 0, 0, 9), api.Missing}, {entry(api.AuditCoins, 0, 0, 0, 31), api.Bound}, {entry(api.AuditCoins, 0, 0, 3, 9), api.Odds},
		{entry(api.AuditTicks, 3, 0, 0, 9), api.Missing}, {entry(api.AuditTicks, 0, 0, 0, 21), api.Bound}, {entry(api.AuditTicks, 0, 0, 4, 9), api.Odds}, {entry(api.AuditTicks, 2, 0, 4, 4), api.Odds},
		{entry(api.AuditFix, 4, 0, 9, 9), api.Missing}, {entry(api.AuditFix, 3, 0, 9, 9), api.Order}, {entry(api.AuditFix, 1, 4, 9, 9), api.Bound}, {entry(api.AuditFix, 1, 0, 9, 12), api.Bound}, {entry(api.AuditFix, 0, 0, 0, 0), api.Odds},
		{entry(api.AuditClear, 0, 1, 0, 0), api.Missing}, {entry(api.AuditClear, 2, 0, 0, 0), api.Missing}, {entry(api.AuditClear, 1, 1, 0, 0), api.Fine},
		{entry(api.AuditMoney, 2, 0, 0, 9), api.Missing}, {entry(api.AuditMoney, 1, 0, 9, 0), api.Twice},
		{entry(api.AuditGoods, 2, 0, 0, 9), api.Missing}, {entry(api.AuditGoods, 0, 11, 0, 9), api.Bound}, {entry(api.AuditGoods, 0, 10, 6, 9), api.Odds},
		{entry(api.AuditWay, 3, 0, 0, 9), api.Missing}, {entry(api.AuditWay, 0, 0, 0, 31), api.Bound}, {entry(api.AuditWay, 0, 0, 4, 9), api.Odds},
	} {
		o, l := audit.Do(b, x.e)
		if l != x.want || l != api.Fine && show(o) != show(api.AuditBook{}) {
			t.Errorf("%+v: bell %d, want %d", x.e, l, x.want)
		}
	}
}

// P10.2, P0.2: a field that a kind does not use is 0, or empty; those that it uses can be anything.
func TestUnusedFields(t *testing.T) {
	b := file(t)
	for kind := api.AuditNone; kind <= api.AuditWay; kind++ {
		for field, some := range [5][]api.AuditEntry{
			{{A: 77}, {A: -1}, {A: math.MaxInt}},
			{{B: 77}, {B: -1}, {B: math.MinInt}},
			{{L: []int{0}}, {L: make([]int, 1000)}},
			{entry(0, 0, 0, 0, 1), entry(0, 0, 0, -1, 0), entry(0, 0, 0, 7, 7)},
			{{S: "-"}, {S: "\x00"}, {S: "M"}},
		} {
			for _, e := range some {
				e.Kind = kind
				// a tag has bells of this name, too
				if _, l := audit.Do(b, e); (l == api.Shape) == fieldsOf(kind)[field] && (kind != api.AuditHang || l != api.Shape) {
					t.Errorf("%+v: bell %d", e, l)
				}
				if _, l := audit.Do(b, at(400, e)); l != api.Bound {
					t.Errorf("%+v on the day 400: bell %d", e, l)
				}
			}
		}
	}
}

// P10.2, P10.9: whatever is done with whatever file, it is what the functions of the chapters make of its part, or their bell.
func TestDoLikeTheChapters(t *testing.T) {
	d := dice.Dice(3)
	fine, bells := map[api.AuditKind]int{}, map[api.AuditKind]int{}
	for i := range 3000 {
		b := parse(t, anyText(&d, i%4 == 0))
		e := anyEntry(&d, b)
		got, l := audit.Do(b, e)
		want, l2 := doOf(b, e)
		if show(got) != show(want) || l != l2 {
			t.Fatalf("%+v, %+v: bell %d, want %d: %+v, want %+v", b, e, l, l2, got, want)
		}
		if l != api.Fine {
			bells[e.Kind]++
			continue
		}
		fine[e.Kind]++
		differ, l := audit.Differ(b, got)
		if l != api.Fine || len(differ) > 1 || len(differ) == 1 && differ[0] != partOf(e.Kind) {
			t.Errorf("%+v: the parts %v are changed, bell %d", e, differ, l)
		}
	}
	for kind := api.AuditNone; kind <= api.AuditWay; kind++ {
		if fine[kind] < 15 || bells[kind] < 15 && kind != api.AuditNone {
			t.Errorf("of the kind %d %d entries were done, and %d had a bell", kind, fine[kind], bells[kind])
		}
	}
}
