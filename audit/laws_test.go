package audit_test

import (
	"math"
	"reflect"
	"slices"
	"strings"
	"testing"

	"nosale/api"
	"nosale/audit"
	"nosale/dice"
)

// P0.1: each function returns, whatever it is called with, and returns the same to several goroutines; it changes nothing.
func TestAlwaysTheSame(t *testing.T) {
	d := dice.Dice(12)
	books := []api.AuditBook{{}, file(t)}
	for _, x := range spoilers() {
		b := file(t)
		x.spoil(&b)
		books = append(books, b)
	}
	for range 4 {
		books = append(books, parse(t, anyText(&d, true)))
	}
	layer().AlwaysTheSame(t, report, books...)
}

// P0.1: numbers that are very great or very small, strings of any bytes, and slices that are very long, have a bell, or make no difference.
func TestGarbage(t *testing.T) {
	d := dice.Dice(13)
	odd := []int{math.MinInt, -1000, -1, 0, 0, 1, 1, 2, 3, 9, 14, 366, 1000000000, math.MaxInt}
	pick := func() int { return odd[d.Roll(len(odd))] }
	several := func() []int { return []int{pick(), pick(), pick()}[:d.Roll(4)] }
	text := func() string {
		return []string{"", "-", "M", "?T", "\xff\x00", " ", "\n", strings.Repeat("M", 99999)}[d.Roll(8)]
	}
	for i := range 400 {
		b := parse(t, anyText(&d, true))
		if i%4 == 0 {
			b.Evening.Counts = []api.EveningCount{{After: pick(), Money: to(pick(), pick())}}
			b.Wheels.Start = several()
		}
		var entries []api.AuditEntry
		for range d.Roll(api.MaxAuditEntries + 2) {
			entries = append(entries, api.AuditEntry{Day: pick(), For: pick() * d.Roll(2), Kind: api.AuditKind(pick()), A: pick(), B: pick(), L: several(), Many: to(pick(), pick()), S: text()})
		}
		q := api.AuditAsk{Kind: api.AuditQuestion(d.Roll(11) - 1), A: pick(), B: pick() * d.Roll(2)}
		audit.Play(b, entries)
		audit.Stands(b, entries)
		audit.Till(b, entries, pick())
		journal, _ := audit.Keep(b, entries)
		audit.Inspect(b, journal)
		audit.Inspect(b, text())
		audit.Read(text())
		audit.Ask(b, q)
		audit.Verify(b, q, several())
		audit.Since(b, entries, q)
		for _, e := range entries {
			audit.Do(b, e)
		}
	}
}

// P0.1: the bells of a million of anything come at once.
func TestMillions(t *testing.T) {
	b := file(t)
	million := make([]int, 1000000)
	_, l := audit.Do(b, api.AuditEntry{Kind: api.AuditRing, L: million})
	_, l2 := audit.Do(b, api.AuditEntry{Kind: api.AuditHang, S: strings.Repeat("M", 1000000)})
	_, _, l3 := audit.Play(b, make([]api.AuditEntry, 1000000))
	_, l4 := audit.Keep(b, journal(api.AuditEntry{L: million}))
	_, _, l5 := audit.Read(strings.Repeat("part wheels 1\n", 1000000))
	_, _, _, l6 := audit.Inspect(b, strings.Repeat("journal 0\n", 1000000))
	if got := show(l, l2, l3, l4, l5, l6); got != show(api.Count, api.Count, api.Count, api.Fine, api.Count, api.Count) {
		t.Error(got)
	}
}

// R3: it makes no difference whether a slice is nil or has no elements.
func TestNilOrEmpty(t *testing.T) {
	bare := [manyParts]string{
		"wheels 0\nwheel 10 tight\nstart 5\n", "strip 9 9 5 1 1\narticle 4 3\n", "house MAKEPROFIT - -\n", "change 5\ndrawer 0..1\n",
		"build 1 1\npart a 0 0 0 none\n", "sales 0\n", "evening 0 0 0 5\nhour 3 none\n", "stock 1 0\ngood tea 0 1 0\n", "tour 0 0\nplace works\n",
	}
	none := parse(t, textOf(bare))
	empty := none
	empty.Wheels.Rings, empty.Strip.Items, empty.House.Alike, empty.Drawer.Sales, empty.Day.Slips = []api.WheelsRing{}, []api.StripItem{}, []string{}, []api.ChangeSale{}, []api.SalesSlip{}
	empty.Works.Parts = []api.BuildPart{{Name: "a", Fits: []int{}}}
	empty.Evening.Hours = []api.EveningHour{{Said: one(3), Staff: []int{}}}
	empty.Stock.Moves, empty.Tour.Ways = []api.StockMove{}, []api.TourWay{}
	if list, l := audit.Differ(none, empty); len(list) > 0 || l != api.Fine {
		t.Errorf("they differ in %v, bell %d", list, l)
	}
	if report(empty) != report(none) {
		t.Error("empty slices and none make a difference")
	}
	if merged, clash, l := audit.Merge(none, empty, empty); show(merged) != show(none) || len(clash) > 0 || l != api.Fine {
		t.Errorf("%+v, %v, bell %d", merged, clash, l)
	}
	b := file(t)
	for _, list := range [][]int{nil, {}} {
		_, l := audit.Do(b, api.AuditEntry{L: list})
		is, l2 := audit.Verify(b, ask(api.AuditSlips), list)
		is2, l3 := audit.Verify(b, ask(api.AuditPlain, 123, 3), list)
		if !is || !is2 || l+l2+l3 != api.Fine {
			t.Errorf("%v: %v, %v, bells %d, %d, %d", list == nil, is, is2, l, l2, l3)
		}
	}
	for _, entries := range [][]api.AuditEntry{nil, {}} {
		if got, want := show(audit.Play(b, entries)), show([]api.Bell{}, b, api.Fine); got != want {
			t.Errorf("%s, want %s", got, want)
		}
	}
}

// spoil changes all memory that slices of a value have.
func spoil(v reflect.Value) {
	switch v.Kind() {
	case reflect.Struct:
		for i := range v.NumField() {
			if v.Field(i).Kind() == reflect.Slice || v.Field(i).Kind() == reflect.Struct {
				spoil(v.Field(i))
			}
		}
	case reflect.Slice:
		for i := range v.Len() {
			spoil(v.Index(i))
			if e := v.Index(i); e.CanSet() && e.Kind() != reflect.Slice {
				e.Set(reflect.Zero(e.Type()))
				if e.CanInt() {
					e.SetInt(77)
				}
			}
		}
	}
}

// roomy gives all slices of a value room behind their elements.
func roomy(v reflect.Value) {
	switch v.Kind() {
	case reflect.Pointer:
		roomy(v.Elem())
	case reflect.Struct:
		for i := range v.NumField() {
			roomy(v.Field(i))
		}
	case reflect.Slice:
		room := reflect.MakeSlice(v.Type(), v.Len(), v.Len()+3)
		reflect.Copy(room, v)
		v.Set(room)
		for i := range v.Len() {
			roomy(v.Index(i))
		}
	}
}

// isUsed tells whether anything stands in the room behind the elements of slices.
func isUsed(v reflect.Value) bool {
	switch v.Kind() {
	case reflect.Struct:
		for i := range v.NumField() {
			if isUsed(v.Field(i)) {
				return true
			}
		}
	case reflect.Slice:
		for i := range v.Cap() {
			e := v.Slice3(0, v.Cap(), v.Cap()).Index(i)
			if i < v.Len() && isUsed(e) || i >= v.Len() && !e.IsZero() {
				return true
			}
		}
	}
	return false
}

// R4: files that are returned share no memory with those that are handed in, nor with entries; no argument is changed, nor the room behind its elements.
func TestNoSharedMemory(t *testing.T) {
	var entries []api.AuditEntry
	for _, x := range news() {
		if x.e.Kind != api.AuditSale {
			entries = append(entries, x.e)
		}
	}
	f := file(t)
	other, l := audit.Do(f, entries[4])
	text := kept(t, f, entries)
	if l != api.Fine {
		t.Fatal(l)
	}
	calls := map[string]func(b, o api.AuditBook, entries []api.AuditEntry) (api.AuditBook, api.Bell){
		"Do": func(b, o api.AuditBook, entries []api.AuditEntry) (api.AuditBook, api.Bell) {
			return audit.Do(b, entries[0])
		},
		"Do nothing": func(b, o api.AuditBook, entries []api.AuditEntry) (api.AuditBook, api.Bell) {
			return audit.Do(b, none())
		},
		"Till": func(b, o api.AuditBook, entries []api.AuditEntry) (api.AuditBook, api.Bell) {
			return audit.Till(b, entries, 9)
		},
		"Till, nothing": func(b, o api.AuditBook, entries []api.AuditEntry) (api.AuditBook, api.Bell) {
			return audit.Till(b, nil, 0)
		},
		"Play": func(b, o api.AuditBook, entries []api.AuditEntry) (api.AuditBook, api.Bell) {
			_, now, l := audit.Play(b, entries)
			return now, l
		},
		"Play nothing": func(b, o api.AuditBook, entries []api.AuditEntry) (api.AuditBook, api.Bell) {
			_, now, l := audit.Play(b, journal(none()))
			return now, l
		},
		"Inspect": func(b, o api.AuditBook, entries []api.AuditEntry) (api.AuditBook, api.Bell) {
			_, _, now, l := audit.Inspect(b, text)
			return now, l
		},
		"Inspect nothing": func(b, o api.AuditBook, entries []api.AuditEntry) (api.AuditBook, api.Bell) {
			_, _, now, l := audit.Inspect(b, "")
			return now, l
		},
		"Inspect a broken one": func(b, o api.AuditBook, entries []api.AuditEntry) (api.AuditBook, api.Bell) {
			_, _, now, l := audit.Inspect(b, "journal 0\n")
			return now, l
		},
		"Merge, one": func(b, o api.AuditBook, entries []api.AuditEntry) (api.AuditBook, api.Bell) {
			merged, _, l := audit.Merge(b, o, b)
			return merged, l
		},
		"Merge, two": func(b, o api.AuditBook, entries []api.AuditEntry) (api.AuditBook, api.Bell) {
			merged, _, l := audit.Merge(b, b, o)
			return merged, l
		},
	}
	for name, call := range calls {
		b, o, e := file(t), parse(t, written(t, other)), slices.Clone(entries)
		for i := range e {
			e[i].L = slices.Clone(e[i].L)
		}
		roomy(reflect.ValueOf(&b))
		roomy(reflect.ValueOf(&o))
		before := show(b, o, e)
		got, l := call(b, o, e)
		want := show(got)
		spoil(reflect.ValueOf(got))
		if show(b, o, e) != before || isUsed(reflect.ValueOf(b)) || isUsed(reflect.ValueOf(o)) || l != api.Fine {
			t.Errorf("%s: the result shares memory with what was handed in, or changes it, bell %d", name, l)
		}
		got, _ = call(b, o, e)
		spoil(reflect.ValueOf(b))
		spoil(reflect.ValueOf(o))
		spoil(reflect.ValueOf(e))
		if show(got) != want {
			t.Errorf("%s: what was handed in shares memory with the result", name)
		}
	}
	// slices of one result
	_, now, _ := audit.Play(f, entries)
	now.Wheels.Rings[0].Keys[0] = 77
	if show(now.Wheels.Rings[1].Keys, now.Wheels.Start) != "[[1 0 0] [0 0 0]]" {
		t.Error(now.Wheels)
	}
}

// R4: lists that are handed in stay as they were, and results share no memory with them.
func TestNoSharedLists(t *testing.T) {
	b := file(t)
	for kind := api.AuditSlips; kind <= api.AuditRound; kind++ {
		for _, q := range thresholds(kind) {
			_, proof, _ := audit.Ask(b, q)
			want := show(proof)
			for i := range proof {
				proof[i] = 77
			}
			_, again, _ := audit.Ask(b, q)
			room := append(make([]int, 0, 9), again...)
			audit.Verify(b, q, room)
			if show(again) != want || show(room[:9]) != show(append(slices.Clone(again), make([]int, 9-len(again))...)) {
				t.Errorf("%+v: %v, %v, want %s", q, again, room, want)
			}
		}
	}
	if got := written(t, b); got != textF() {
		t.Errorf("F was changed: %q", got)
	}
}

// P10.8: the file in the end is that which the entries in force make, done one by one; an entry with a bell changes nothing.
func TestInForce(t *testing.T) {
	d := dice.Dice(14)
	for i := range 200 {
		b := parse(t, anyText(&d, i%5 == 0))
		entries := anyJournal(&d, b, d.Roll(api.MaxAuditEntries+1))
		bells, now, l := audit.Play(b, entries)
		force, l2 := audit.Stands(b, entries)
		done := b
		for _, n := range force {
			var l api.Bell
			if done, l = audit.Do(done, instead(0, entries[n-1])); l != api.Fine {
				t.Errorf("%+v, %+v: %d is in force, but has the bell %d", b, entries, n, l)
			}
		}
		if show(done) != show(now) || l+l2 != api.Fine {
			t.Errorf("%+v, %+v: %+v, but in force are %v: %+v, bells %d, %d", b, entries, now, force, done, l, l2)
		}
		for n, bell := range bells {
			if bell == api.Fine {
				continue
			}
			_, before, _ := audit.Play(b, entries[:n])
			_, behind, _ := audit.Play(b, entries[:n+1])
			one, _ := audit.Stands(b, entries[:n])
			two, _ := audit.Stands(b, entries[:n+1])
			if show(before, one) != show(behind, two) {
				t.Errorf("%+v, %+v: the entry %d has the bell %d, but changes %+v to %+v", b, entries, n+1, bell, before, behind)
			}
		}
	}
}

// P10.8: an entry that is corrected by none is as if it had not been, unless others need it.
func TestTakenBack(t *testing.T) {
	d := dice.Dice(15)
	taken, needed := 0, 0
	for i := range 1200 {
		b := parse(t, anyText(&d, false))
		if i%2 == 0 {
			b, _, _ = turning(t)
		}
		entries := []api.AuditEntry{}
		for range 1 + d.Roll(6) {
			_, pool, _ := turning(t)
			e := pool[d.Roll(len(pool))]
			if d.Roll(3) == 0 {
				e = anyEntry(&d, b)
			}
			entries = append(entries, e)
		}
		which := d.Roll(len(entries))
		bells, _, _ := audit.Play(b, entries)
		less := slices.Delete(slices.Clone(entries), which, which+1)
		bellsLess, want, _ := audit.Play(b, less)
		all, now, l := audit.Play(b, append(slices.Clone(entries), instead(which+1, none())))
		bell := all[len(entries)]
		if l != api.Fine || bells[which] != api.Fine && bell != api.Missing {
			t.Fatalf("%+v, %+v: corrected, %d has the bell %d, and had %d", b, entries, which+1, bell, bells[which])
		}
		if slices.Equal(slices.Delete(slices.Clone(bells), which, which+1), bellsLess) && bells[which] == api.Fine {
			taken++
			if show(now) != show(want) || bell != api.Fine {
				t.Errorf("%+v, %+v: %d is taken back: %+v, bell %d, want %+v", b, entries, which+1, now, bell, want)
			}
		} else if bells[which] == api.Fine {
			needed++
		}
	}
	if taken < 300 || needed < 15 {
		t.Errorf("%d entries were taken back, and others were otherwise without %d", taken, needed)
	}
	// a fix that another entry needs
	b := parse(t, textWith(salesPart, "sales 1\nslip sold 1 0 -1 5 open\nslip back 1 0 0 6 open\nslip fix 0 0 1 7 open\n"))
	first := entry(api.AuditFix, 0, 0, 8, 8)
	for _, x := range []struct {
		entries []api.AuditEntry
		want    []api.Bell
	}{
		{journal(first, entry(api.AuditSign, 2, 1, 0, 0)), []api.Bell{api.Fine, api.Fine}},
		{journal(entry(api.AuditSign, 2, 1, 0, 0), first), []api.Bell{api.Odds, api.Fine}},
		{journal(first, entry(api.AuditSign, 2, 1, 0, 0), instead(1, none())), []api.Bell{api.Fine, api.Fine, api.Odds}},
		{journal(first, entry(api.AuditSign, 2, 1, 0, 0), instead(1, entry(api.AuditFix, 0, 0, 6, 6)), instead(1, entry(api.AuditFix, 0, 0, 7, 7))), []api.Bell{api.Fine, api.Fine, api.Odds, api.Fine}},
	} {
		if bells, _, l := audit.Play(b, x.entries); !slices.Equal(bells, x.want) || l != api.Fine {
			t.Errorf("%+v: bells %v, want %v, bell %d", x.entries, bells, x.want, l)
		}
	}
}

// P10.9: entries about different parts can be played in either order.
func TestApart(t *testing.T) {
	d := dice.Dice(16)
	both := 0
	for i := range 1500 {
		b := parse(t, anyText(&d, i%5 == 0))
		one, two := anyEntry(&d, b), anyEntry(&d, b)
		if partOf(one.Kind) == partOf(two.Kind) {
			continue
		}
		bells, now, l := audit.Play(b, journal(one, two))
		other, now2, l2 := audit.Play(b, journal(two, one))
		slices.Reverse(other)
		if !slices.Equal(bells, other) || show(now) != show(now2) || l+l2 != api.Fine {
			t.Errorf("%+v, %+v, %+v: %v, %v: %+v, %+v", b, one, two, bells, other, now, now2)
		}
		if bells[0] == api.Fine && bells[1] == api.Fine {
			both++
		}
	}
	if both < 50 {
		t.Errorf("only %d times both were done", both)
	}
}

// P10.11: a file that is played up to a day, and on from there, is the file of all days, if no later entry corrects an earlier one.
func TestOnFromADay(t *testing.T) {
	d := dice.Dice(17)
	on := 0
	for range 400 {
		b := parse(t, anyText(&d, false))
		entries := anyJournal(&d, b, api.MaxAuditEntries)
		slices.SortStableFunc(entries, func(x, y api.AuditEntry) int { return x.Day - y.Day })
		day := entries[d.Roll(len(entries))].Day
		many := 0
		for many < len(entries) && entries[many].Day <= day {
			many++
		}
		// what is corrected later is numbered from there on
		later := slices.Clone(entries[many:])
		for i := range later {
			if f := later[i].For; f > 0 && f <= many {
				entries[many+i].For, later[i].For = 0, 0
			} else if f > many {
				later[i].For = f - many
			}
		}
		then, l := audit.Till(b, entries, day)
		bells, now, l2 := audit.Play(then, later)
		all, want, l3 := audit.Play(b, entries)
		if l+l2+l3 != api.Fine || !slices.Equal(bells, all[many:]) || show(now) != show(want) {
			t.Errorf("%+v, %+v: on from the day %d: %v, %+v, want %v, %+v", b, entries, day, bells, now, all[many:], want)
		}
		if many < len(entries) && slices.Contains(bells, api.Fine) {
			on++
		}
	}
	if on < 100 {
		t.Errorf("only %d files were played on", on)
	}
}
