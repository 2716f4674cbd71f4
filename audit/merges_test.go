package audit_test

import (
	"slices"
	"testing"

	"nosale/api"
	"nosale/audit"
	"nosale/dice"
	"nosale/oracle"
)

// anyOther returns a file some parts of which are others.
func anyOther(d *dice.Dice, t *testing.T, parts [manyParts]string, some []int) ([manyParts]string, api.AuditBook) {
	t.Helper()
	for _, i := range some {
		v := varieties()[i]
		all := append([]string{v.f}, v.fine...)
		parts[i] = all[d.Roll(len(all))]
	}
	return parts, parse(t, textOf(parts))
}

// P10.5: Differ returns the parts in which files are not equal; a slice that is nil is as an empty one.
func TestDiffer(t *testing.T) {
	d := dice.Dice(8)
	for range 300 {
		parts, a := anyOther(&d, t, partsF(), oracle.Indexes(manyParts))
		others, b := anyOther(&d, t, parts, oracle.Subsets(manyParts)[d.Roll(1<<manyParts)])
		want := oracle.Kept(oracle.Indexes(manyParts), func(i int) bool { return parts[i] != others[i] })
		one, l := audit.Differ(a, b)
		two, l2 := audit.Differ(b, a)
		if !slices.Equal(one, want) || !slices.Equal(two, want) || l+l2 != api.Fine {
			t.Errorf("%+v, %+v: %v, %v, want %v, bells %d, %d", a, b, one, two, want, l, l2)
		}
	}
	for _, text := range everyText() {
		if list, l := audit.Differ(parse(t, text), parse(t, text)); len(list) > 0 || l != api.Fine {
			t.Errorf("%q: %v, bell %d", text, list, l)
		}
	}
	// each little thing
	b := file(t)
	for i, change := range []func(o *api.AuditBook){
		func(o *api.AuditBook) { o.Wheels.Rings[0].Read = []int{-1, -1, -1} },
		func(o *api.AuditBook) { o.Strip.Items[2].Clerk = 0 },
		func(o *api.AuditBook) { o.House.Alike = []string{"FE"} },
		func(o *api.AuditBook) { o.Drawer.Sales[2].Seen = api.Yes },
		func(o *api.AuditBook) { o.Works.Parts[0].Stock = 2 },
		func(o *api.AuditBook) { o.Day.Sums[0].Firm = true },
		func(o *api.AuditBook) { o.Evening.Clerks[1] = "bill" },
		func(o *api.AuditBook) { o.Stock.Goods[0].Cost = 6 },
		func(o *api.AuditBook) { o.Tour.Jobs[0].Parts[0] = 1 },
	} {
		o := file(t)
		change(&o)
		if list, l := audit.Differ(b, o); !slices.Equal(list, []int{i}) || l != api.Fine {
			t.Errorf("%d: %v, bell %d", i, list, l)
		}
	}
}

// P10.5: Merge takes part by part that of whoever changed it; parts that both changed in two ways clash.
func TestMerge(t *testing.T) {
	d := dice.Dice(9)
	merges, clashes := 0, 0
	for range 600 {
		sets := oracle.Subsets(manyParts)
		parts, base := anyOther(&d, t, partsF(), oracle.Indexes(manyParts))
		ones, one := anyOther(&d, t, parts, sets[d.Roll(130)])
		twos, two := anyOther(&d, t, parts, sets[d.Roll(130)])
		var want []int
		all := parts
		for i := range manyParts {
			switch {
			case ones[i] != parts[i] && twos[i] != parts[i] && ones[i] != twos[i]:
				want = append(want, i)
			case ones[i] != parts[i]:
				all[i] = ones[i]
			default:
				all[i] = twos[i]
			}
		}
		merged, clash, l := audit.Merge(base, one, two)
		if len(want) > 0 {
			clashes++
			if show(merged) != show(api.AuditBook{}) || !slices.Equal(clash, want) || l != api.Odds {
				t.Errorf("%+v, %+v, %+v: %+v, %v, want %v, bell %d", base, one, two, merged, clash, want, l)
			}
			continue
		}
		merges++
		if len(clash) > 0 || l != api.Fine || written(t, merged) != textOf(all) {
			t.Errorf("%+v, %+v, %+v: %+v, %v, bell %d, want %q", base, one, two, merged, clash, l, textOf(all))
		}
	}
	if merges < 100 || clashes < 100 {
		t.Errorf("%d merges, and %d clashes", merges, clashes)
	}
}

// P10.10: what two did to unlike parts can be merged, in either order; what is merged with the base is as it was.
func TestMergeUnlike(t *testing.T) {
	b := file(t)
	for _, x := range news() {
		one, l := audit.Do(b, x.e)
		if l != api.Fine {
			t.Fatal(l)
		}
		for _, two := range []api.AuditBook{b, one} {
			for _, merged := range []string{show(audit.Merge(b, one, two)), show(audit.Merge(b, two, one))} {
				if merged != show(one, []int{}, api.Fine) {
					t.Errorf("%+v, merged with the base, or itself: %s", x.e, merged)
				}
			}
		}
		if merged := show(audit.Merge(one, b, b)); merged != show(b, []int{}, api.Fine) {
			t.Errorf("%+v, taken back by both: %s", x.e, merged)
		}
		for _, y := range news() {
			two, l := audit.Do(b, y.e)
			if l != api.Fine {
				t.Fatal(l)
			}
			got, other := show(audit.Merge(b, one, two)), show(audit.Merge(b, two, one))
			want := show(api.AuditBook{}, []int{x.part}, api.Odds)
			if x.part != y.part {
				both, l := audit.Do(one, y.e)
				want = show(both, []int{}, l)
			} else if x.text == y.text {
				want = show(one, []int{}, api.Fine)
			}
			if got != want || other != want {
				t.Errorf("%+v and %+v: %s, %s, want %s", x.e, y.e, got, other, want)
			}
		}
	}
}
