package audit_test

import (
	"testing"

	"nosale/api"
	"nosale/audit"
	"nosale/wheels"
)

// P10.1 to P10.5: the chapter's examples, each row of its table.
func TestExamples(t *testing.T) {
	b := file(t)
	is := func(name string, want string, got ...any) {
		t.Helper()
		if s := show(got...); s != want {
			t.Errorf("%s: %s, want %s", name, s, want)
		}
	}
	differ, l := audit.Differ(b, b)
	is("Check, Differ", show(api.Fine, []int{}, api.Fine), audit.Check(b), differ, l)
	done, l := audit.Do(b, ring(1, 0, 19, 0))
	read, l2 := wheels.Read(b.Wheels, 1, []int{0, 19, 0})
	is("Do", show(read, api.Fine, api.Fine), done.Wheels, l, l2)
	three := journal(ring(1, 0, 19, 0), instead(1, ring(1, 0, 0, 1)), instead(1, ring(1, 0, 0, 2)))
	bells, now, l := audit.Play(b, three)
	is("Play", show([]api.Bell{api.Fine, api.Fine, api.Odds}, api.Fine), bells, l)
	stands, l := audit.Stands(b, three)
	yes, proof, l2 := audit.Ask(now, ask(api.AuditSlips, 0))
	is("Stands, Ask", show([]int{2}, api.Fine, true, []int{}, api.Fine), stands, l, yes, proof, l2)
	for _, x := range []struct {
		q     api.AuditAsk
		yes   bool
		proof []int
	}{
		{ask(api.AuditSlips, 0), true, nil}, {ask(api.AuditFloat, 1), true, []int{0, 1, 0}}, {ask(api.AuditFloat, 0), false, nil},
		{ask(api.AuditCheap, 11), true, []int{0, 0, 1}}, {ask(api.AuditFalse, 0), false, nil}, {ask(api.AuditHands, 1), true, []int{0}},
		{ask(api.AuditBlame, 1), true, []int{3}}, {ask(api.AuditRound, 2), true, []int{0, 2}}, {ask(api.AuditWhole), false, nil},
	} {
		yes, proof, l := audit.Ask(b, x.q)
		is("Ask "+show(x.q), show(x.yes, x.proof, api.Fine), yes, proof, l)
	}
	for _, x := range []struct {
		q     api.AuditAsk
		proof []int
		is    bool
	}{{ask(api.AuditBlame, 2), []int{3}, true}, {ask(api.AuditBlame, 1), []int{0}, false}, {ask(api.AuditRound, 2), []int{0, 1}, true}} {
		yes, l := audit.Verify(b, x.q, x.proof)
		is("Verify "+show(x.q), show(x.is, api.Fine), yes, l)
	}
	coins, goods := entry(api.AuditCoins, 2, 0, 2, 2), entry(api.AuditGoods, 1, 0, 6, 6)
	n, l := audit.Since(b, journal(coins, instead(1, api.AuditEntry{}), goods), ask(api.AuditHands, 1))
	is("Since", show(0, api.Fine), n, l)
	one, l := audit.Do(b, coins)
	two, l2 := audit.Do(b, goods)
	both, l3 := audit.Do(one, goods)
	merged, clash, l4 := audit.Merge(b, one, two)
	is("Merge", show(both, []int{}, 0, 0, 0, 0), merged, clash, l, l2, l3, l4)
}
