package audit_test

import (
	"math"
	"slices"
	"testing"

	"nosale/api"
	"nosale/audit"
)

// spoiler gives a part of a file a bell.
type spoiler struct {
	spoil func(b *api.AuditBook)
	want  api.Bell
}

// spoilers returns one for each part; the bells of parts that follow each other are unlike.
func spoilers() [manyParts]spoiler {
	return [manyParts]spoiler{
		wheelsPart:  {func(b *api.AuditBook) { b.Wheels.Most = 3 }, api.Bound},
		stripPart:   {func(b *api.AuditBook) { b.Strip.Articles = nil }, api.Count},
		tagPart:     {func(b *api.AuditBook) { b.House.Letters = "" }, api.Shape},
		changePart:  {func(b *api.AuditBook) { b.Drawer.Kinds = []int{1, 2, 4} }, api.Order},
		buildPart:   {func(b *api.AuditBook) { b.Works.Parts = slices.Repeat(b.Works.Parts[:1], 2) }, api.Twice},
		salesPart:   {func(b *api.AuditBook) { b.Day.Slips = []api.SalesSlip{{Kind: api.SalesBack}} }, api.Missing},
		eveningPart: {func(b *api.AuditBook) { b.Evening.Clerks = []string{"Ann"} }, api.Label},
		stockPart:   {func(b *api.AuditBook) { b.Stock.Days = math.MaxInt }, api.Bound},
		tourPart:    {func(b *api.AuditBook) { b.Tour.Ways = nil }, api.Short},
	}
}

// P10.1, P0.2: the bell of a file is that of the first part that has one.
func TestCheck(t *testing.T) {
	for _, text := range everyText() {
		if l := audit.Check(parse(t, text)); l != api.Fine {
			t.Errorf("%q: bell %d", text, l)
		}
	}
	all := spoilers()
	for set := range 1 << manyParts {
		b, want := file(t), api.Fine
		for i := manyParts - 1; i >= 0; i-- {
			if set>>i&1 == 1 {
				all[i].spoil(&b)
				want = all[i].want
			}
		}
		if l := audit.Check(b); l != want {
			t.Errorf("the parts %b are spoilt: bell %d, want %d", set, l, want)
		}
	}
	if l := audit.Check(api.AuditBook{}); l != api.Count {
		t.Errorf("nothing has the bell %d", l)
	}
}

// P10.1 to P10.5, P0.2, R1, R2: all functions with files return the bell of the first one that has one, before any other bell, and nothing else.
func TestFilesFirst(t *testing.T) {
	right, spoilt := file(t), file(t)
	spoilers()[eveningPart].spoil(&spoilt)
	other := file(t)
	spoilers()[buildPart].spoil(&other)
	many := make([]api.AuditEntry, api.MaxAuditEntries+1)
	bad := api.AuditEntry{Kind: -1, For: 7}
	none := api.AuditBook{}
	for name, x := range map[string]struct{ got, want string }{
		"Write":   {show(audit.Write(spoilt)), show("", api.Label)},
		"Seal":    {show(audit.Seal(spoilt)), show(0, api.Label)},
		"Do":      {show(audit.Do(spoilt, bad)), show(none, api.Label)},
		"Play":    {show(audit.Play(spoilt, many)), show([]api.Bell{}, none, api.Label)},
		"Stands":  {show(audit.Stands(spoilt, many)), show([]int{}, api.Label)},
		"Till":    {show(audit.Till(spoilt, many, -1)), show(none, api.Label)},
		"Keep":    {show(audit.Keep(spoilt, many)), show("", api.Label)},
		"Inspect": {show(audit.Inspect(spoilt, string(make([]byte, api.MaxText+1)))), show(0, 0, none, api.Label)},
		"Ask":     {show(audit.Ask(spoilt, ask(-1))), show(false, []int{}, api.Label)},
		"Verify":  {show(audit.Verify(spoilt, ask(-1), nil)), show(false, api.Label)},
		"Since":   {show(audit.Since(spoilt, many, ask(-1))), show(0, api.Label)},
		// the first one decides
		"Differ, first":   {show(audit.Differ(spoilt, other)), show([]int{}, api.Label)},
		"Differ, second":  {show(audit.Differ(right, spoilt)), show([]int{}, api.Label)},
		"Differ, other":   {show(audit.Differ(other, spoilt)), show([]int{}, api.Twice)},
		"Merge, first":    {show(audit.Merge(spoilt, other, other)), show(none, []int{}, api.Label)},
		"Merge, second":   {show(audit.Merge(right, spoilt, other)), show(none, []int{}, api.Label)},
		"Merge, third":    {show(audit.Merge(right, right, spoilt)), show(none, []int{}, api.Label)},
		"Merge, the same": {show(audit.Merge(spoilt, spoilt, spoilt)), show(none, []int{}, api.Label)},
	} {
		if x.got != x.want {
			t.Errorf("%s: %s, want %s", name, x.got, x.want)
		}
	}
}

// P10.2, P10.3, P10.4, P0.2: there are too many entries before anything else is wrong.
func TestTooManyEntries(t *testing.T) {
	b := file(t)
	full := make([]api.AuditEntry, api.MaxAuditEntries)
	many := slices.Repeat(journal(api.AuditEntry{Kind: -1, S: " "}), api.MaxAuditEntries+1)
	none := api.AuditBook{}
	for name, x := range map[string]struct{ got, want string }{
		"Play":   {show(audit.Play(b, many)), show([]api.Bell{}, none, api.Count)},
		"Stands": {show(audit.Stands(b, many)), show([]int{}, api.Count)},
		"Till":   {show(audit.Till(b, many, -1)), show(none, api.Count)},
		"Keep":   {show(audit.Keep(b, many)), show("", api.Count)},
		"Since":  {show(audit.Since(b, many, ask(-1))), show(0, api.Count)},
		// as many as there can be
		"Play, full":   {show(audit.Play(b, full)), show(make([]api.Bell, len(full)), b, api.Fine)},
		"Stands, full": {show(audit.Stands(b, full)), show([]int{1, 2, 3, 4, 5, 6, 7, 8, 9, 10, 11, 12}, api.Fine)},
		"Till, full":   {show(audit.Till(b, full, 0)), show(b, api.Fine)},
		"Since, full":  {show(audit.Since(b, full, ask(api.AuditSlips))), show(0, api.Fine)},
	} {
		if x.got != x.want {
			t.Errorf("%s: %s, want %s", name, x.got, x.want)
		}
	}
	if _, l := audit.Keep(b, full); l != api.Fine {
		t.Errorf("Keep, full: bell %d", l)
	}
}
