package audit_test

import (
	"slices"
	"testing"

	"nosale/api"
	"nosale/audit"
	"nosale/dice"
)

// P10.12, P0.4: whatever really happened, entries that are right leave it a history of each part, and all answers are so.
func TestWhateverReallyHappened(t *testing.T) {
	d := dice.Dice(18)
	done := map[api.AuditKind]int{}
	for range 250 {
		b := parse(t, anyText(&d, false))
		x := anyTruth(&d, t, b)
		x.holds(t, b)
		var entries []api.AuditEntry
		for range api.MaxAuditEntries {
			e, found := x.entry(&d, t, b, api.AuditKind(d.Roll(14)))
			if !found && e.Kind != api.AuditNone {
				continue
			}
			if n := len(entries); n > 0 && d.Roll(4) == 0 {
				e.For = 1 + d.Roll(n)
			}
			entries = append(entries, e)
		}
		bells, now, l := audit.Play(b, entries)
		if l != api.Fine {
			t.Fatal(l)
		}
		for i, bell := range bells {
			// what is known already cannot be learnt again, and there is no room for too much; but nothing is odd
			if !slices.Contains([]api.Bell{api.Fine, api.Count, api.Twice, api.Missing}, bell) {
				t.Errorf("%+v, %+v: %+v is right, but has the bell %d", b, x, entries[i], bell)
			}
			if bell == api.Fine {
				done[entries[i].Kind]++
			}
		}
		x.holds(t, now)
	}
	for kind := api.AuditNone; kind <= api.AuditWay; kind++ {
		if done[kind] < 20 {
			t.Errorf("only %d entries of the kind %d were done", done[kind], kind)
		}
	}
}

// isSure tells whether the answer yes to a question is so in each history; others are so in some.
func isSure(kind api.AuditQuestion) bool {
	return slices.Contains([]api.AuditQuestion{api.AuditWhole, api.AuditPlain, api.AuditFloat, api.AuditCheap, api.AuditRound}, kind)
}

// P0.6: what becomes known never spoils a proof of what is sure, and never makes something possible that was not.
func TestKnowingMore(t *testing.T) {
	d := dice.Dice(19)
	kept, gone := 0, 0
	for range 40 {
		b := parse(t, anyText(&d, false))
		x := anyTruth(&d, t, b)
		for range 8 {
			kind := api.AuditKind(1 + d.Roll(13))
			e, found := x.entry(&d, t, b, kind)
			if !found || kind == api.AuditFix {
				continue
			}
			now, l := audit.Do(b, e)
			if l != api.Fine {
				continue
			}
			for kind := api.AuditSlips; kind <= api.AuditRound; kind++ {
				// questions are about the parts in their order
				if int(kind) != partOf(e.Kind) {
					continue
				}
				for _, q := range thresholds(kind) {
					for _, proof := range tries(b, q) {
						was, l := audit.Verify(b, q, proof)
						is, l2 := audit.Verify(now, q, proof)
						if isSure(kind) && was && !is || !isSure(kind) && is && !was || l != l2 {
							t.Errorf("%+v, %+v, %+v: %v was a proof: %v, and is one: %v, bells %d, %d", b, e, q, proof, was, is, l, l2)
						}
						if was && is {
							kept++
						} else if was || is {
							gone++
						}
					}
				}
			}
		}
	}
	if kept < 500 || gone < 50 {
		t.Errorf("%d proofs were kept, and %d were not, or are new", kept, gone)
	}
}
