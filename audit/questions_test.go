package audit_test

import (
	"math"
	"slices"
	"strings"
	"testing"

	"nosale/api"
	"nosale/audit"
	"nosale/dice"
)

// P10.4: Ask returns the answer, and its proof if it is yes.
func TestAsk(t *testing.T) {
	b := file(t)
	for _, x := range []struct {
		q     api.AuditAsk
		yes   bool
		proof []int
	}{
		{ask(api.AuditSlips, 0), true, nil}, {ask(api.AuditSlips, math.MaxInt), true, nil}, {ask(api.AuditSlips, -1), false, nil}, {ask(api.AuditSlips, math.MinInt), false, nil},
		{ask(api.AuditWhole), false, nil},
		{ask(api.AuditPlain, 123, 3), true, nil}, {ask(api.AuditPlain, 345, 3), false, nil}, {ask(api.AuditPlain, 19, 2), false, nil}, {ask(api.AuditPlain, 99999, 5), false, nil}, {ask(api.AuditPlain, 11111, 5), true, nil},
		{ask(api.AuditFloat, 0), false, nil}, {ask(api.AuditFloat, 1), true, []int{0, 1, 0}}, {ask(api.AuditFloat, 99), true, []int{0, 1, 0}}, {ask(api.AuditFloat, -1), false, nil},
		{ask(api.AuditCheap, 10), false, nil}, {ask(api.AuditCheap, 11), true, []int{0, 0, 1}}, {ask(api.AuditCheap, math.MaxInt), true, []int{0, 0, 1}}, {ask(api.AuditCheap, -1), false, nil},
		{ask(api.AuditFalse, 0), false, nil}, {ask(api.AuditFalse, 1), true, []int{1}}, {ask(api.AuditFalse, 9), true, []int{1}}, {ask(api.AuditFalse, -1), false, nil},
		{ask(api.AuditHands, 0), false, nil}, {ask(api.AuditHands, 1), true, []int{0}}, {ask(api.AuditHands, 9), true, []int{0}}, {ask(api.AuditHands, -1), false, nil},
		{ask(api.AuditBlame, 0), false, nil}, {ask(api.AuditBlame, 1), true, []int{3}}, {ask(api.AuditBlame, 9), true, []int{3}}, {ask(api.AuditBlame, -1), false, nil},
		{ask(api.AuditRound, 3), false, nil}, {ask(api.AuditRound, 2), true, []int{0, 2}}, {ask(api.AuditRound, 0), true, []int{0, 2}}, {ask(api.AuditRound, -1), true, []int{0, 2}}, {ask(api.AuditRound, math.MinInt), true, []int{0, 2}}, {ask(api.AuditRound, math.MaxInt), false, nil},
	} {
		if yes, proof, l := audit.Ask(b, x.q); yes != x.yes || !slices.Equal(proof, x.proof) || l != api.Fine {
			t.Errorf("%+v: %v, %v, bell %d, want %v, %v", x.q, yes, proof, l, x.yes, x.proof)
		}
	}
	for _, x := range []struct {
		part  int
		text  string
		q     api.AuditAsk
		yes   bool
		proof []int
	}{
		{wheelsPart, strings.Replace(textA, "1+0+0 none", "1+0+0 0+19+0", 1), ask(api.AuditSlips, 1), true, []int{1, 0}},
		{wheelsPart, strings.Replace(textA, "1+0+0 none", "1+0+0 0+19+0", 1), ask(api.AuditSlips, 0), false, nil},
		{wheelsPart, "wheels 2\nwheel 2 drops\nwheel 2 doubles\nwheel 9 tight\nstart 0+0+0\nring 1+1+0 none\nring 1+1+0 0+0+2\n", ask(api.AuditSlips, 2), true, []int{1, 0, 1, 1}},
		{stripPart, textR + "took 1 65\nmade 0 2\n", ask(api.AuditWhole), true, []int{0, 2, 1}},
		{stripPart, "strip 9 9 5 1 1\narticle 4 3\n", ask(api.AuditWhole), true, nil},
		// whatever is put into the drawer, a sale can be refused
		{changePart, "change 500+2\ndrawer 0\ndrawer 0\nsale 1 1+0 open\n", ask(api.AuditFloat, 9), false, nil},
		{changePart, "change 5\ndrawer 0..1\n", ask(api.AuditFloat, 0), true, []int{0}},
		// no machine is safe
		{buildPart, "build 8 3\npart cam 4 3 2..3 0\npart gear 3 3 2 1+2\npart pawl 5 1 1..4 0\napart 1 1\n", ask(api.AuditCheap, 999), false, nil},
		{buildPart, strings.Replace(textB, "build 8", "build 1", 1), ask(api.AuditCheap, 999), false, nil},
		{salesPart, "sales 0\n", ask(api.AuditFalse, 0), true, nil},
		// more sums are false than can be
		{salesPart, "sales 1\nslip given 2 0 -1 5..6 open\nslip fix 0 3 0 7 open\nsum gifts 0 1 loose\nsum dept 2 1 loose\n", ask(api.AuditFalse, 2), true, []int{0, 1}},
		{eveningPart, "evening 0 0 1 100\nhour 50 none\nwheel 0 5\nwheel 0 -5\ncount 0 145\n", ask(api.AuditHands, 0), true, nil},
		{eveningPart, "evening 2 2 0 10\nclerk ann\nclerk bob\nhour 5 0\nhour 5 1\ncount 1 17\n", ask(api.AuditHands, 2), true, []int{0, 1}},
		{eveningPart, "evening 2 2 0 10\nclerk ann\nclerk bob\nhour 5 0\nhour 5 1\ncount 1 17\n", ask(api.AuditHands, 1), false, nil},
		// more notes are false than can be
		{stockPart, strings.Replace(textT, "stock 10 1", "stock 10 0", 1), ask(api.AuditBlame, 1), true, []int{3}},
		{tourPart, "tour 0 0\nplace works\n", ask(api.AuditRound, 0), true, nil},
		{tourPart, "tour 0 0\nplace works\n", ask(api.AuditRound, 1), false, nil},
	} {
		if yes, proof, l := audit.Ask(parse(t, textWith(x.part, x.text)), x.q); yes != x.yes || !slices.Equal(proof, x.proof) || l != api.Fine {
			t.Errorf("%q, %+v: %v, %v, bell %d, want %v, %v", x.text, x.q, yes, proof, l, x.yes, x.proof)
		}
	}
}

// P10.4, P0.2: the bells of questions, in their order; Verify has the same ones, and Since those of the end.
func TestQuestionBells(t *testing.T) {
	f := textF()
	odd := func(part, i int) string { return textWith(part, varieties()[part].odd[i]) }
	for _, x := range []struct {
		text string
		q    api.AuditAsk
		want api.Bell
	}{
		{f, ask(-1), api.Bound}, {f, ask(9), api.Bound}, {f, ask(math.MaxInt), api.Bound}, {f, ask(math.MinInt), api.Bound}, {f, ask(9, 1, 1), api.Bound},
		{f, ask(api.AuditSlips, 0, 1), api.Shape}, {f, ask(api.AuditWhole, 1), api.Shape}, {f, ask(api.AuditWhole, 0, -1), api.Shape}, {f, ask(api.AuditWhole, math.MinInt), api.Shape}, {f, ask(api.AuditPlain, 0, 1), api.Fine}, {f, ask(api.AuditFloat, 0, 1), api.Shape}, {f, ask(api.AuditCheap, 0, 1), api.Shape}, {f, ask(api.AuditFalse, 0, 1), api.Shape}, {f, ask(api.AuditHands, 0, 1), api.Shape}, {f, ask(api.AuditBlame, 0, math.MaxInt), api.Shape}, {f, ask(api.AuditRound, 0, -1), api.Shape},
		{f, ask(api.AuditPlain, -1, 1), api.Bound}, {f, ask(api.AuditPlain, 100000, 5), api.Bound}, {f, ask(api.AuditPlain, 1, 0), api.Bound}, {f, ask(api.AuditPlain, 1, 6), api.Bound}, {f, ask(api.AuditPlain, 10, 1), api.Short}, {f, ask(api.AuditPlain), api.Bound},
		{odd(wheelsPart, 0), ask(api.AuditSlips), api.Odds}, {odd(stripPart, 0), ask(api.AuditWhole), api.Odds}, {odd(stripPart, 1), ask(api.AuditWhole), api.Odds}, {odd(tagPart, 0), ask(api.AuditPlain, 1, 1), api.Odds}, {odd(tagPart, 0), ask(api.AuditPlain, 10, 1), api.Short}, {odd(changePart, 0), ask(api.AuditFloat), api.Odds}, {odd(changePart, 1), ask(api.AuditFloat), api.Odds}, {odd(buildPart, 0), ask(api.AuditCheap), api.Odds}, {odd(salesPart, 0), ask(api.AuditFalse), api.Odds}, {odd(salesPart, 1), ask(api.AuditFalse), api.Fine}, {odd(eveningPart, 0), ask(api.AuditHands), api.Odds}, {odd(stockPart, 0), ask(api.AuditBlame), api.Fine}, {odd(stockPart, 1), ask(api.AuditBlame), api.Odds}, {odd(tourPart, 0), ask(api.AuditRound), api.Odds},
		// the question comes before what is asked
		{odd(wheelsPart, 0), ask(api.AuditSlips, 0, 1), api.Shape}, {odd(stripPart, 0), ask(api.AuditWhole, 1), api.Shape}, {odd(stockPart, 1), ask(9), api.Bound},
		// what is not asked about does not matter
		{odd(wheelsPart, 0), ask(api.AuditRound), api.Fine}, {odd(tourPart, 0), ask(api.AuditSlips), api.Fine},
	} {
		b := parse(t, x.text)
		yes, proof, l := audit.Ask(b, x.q)
		is, l2 := audit.Verify(b, x.q, proof)
		_, l3 := audit.Verify(b, x.q, []int{-1})
		n, l4 := audit.Since(b, nil, x.q)
		n2, l5 := audit.Since(b, journal(none()), x.q)
		if l != x.want || l2 != x.want || l3 != x.want || l4 != x.want || l5 != x.want || n != 0 || n2 != 0 {
			t.Errorf("%+v: bells %d, %d, %d, %d, %d, want %d, since %d, %d", x.q, l, l2, l3, l4, l5, x.want, n, n2)
		}
		if l != api.Fine && (yes || is || len(proof) > 0) {
			t.Errorf("%+v: %v, %v, %v, together with the bell %d", x.q, yes, is, proof, l)
		}
	}
}

// verifyCase is a proof, and whether it is one.
type verifyCase struct {
	part  int
	text  string
	q     api.AuditAsk
	proof []int
	want  bool
}

// P10.4: Verify tells whether a proof shows that the answer is yes, whatever better ones there are.
func TestVerify(t *testing.T) {
	one := strings.Replace(textA, "1+0+0 none", "1+0+0 0+19+0", 1)
	const two = "wheels 2\nwheel 2 drops\nwheel 2 doubles\nwheel 9 tight\nstart 0+0+0\nring 1+1+0 none\nring 1+1+0 0+0+2\n"
	const open = "wheels 1\nwheel 3 drops\nwheel 4 doubles\nwheel 2 tight\nstart -1+-1+0\nring 2+3+0 none\nring 1+0+1 -1+2+-1\n"
	firm := strings.Replace(textS, "clerk 1 12 loose", "clerk 1 10 firm", 1)
	const hands = "evening 2 2 0 10\nclerk ann\nclerk bob\nclerk cid\nhour 5 0\nhour 5 1+2\ncount 1 17\n"
	const lies = "stock 3 0\ngood a 1 1 0..2\nmove came 0 1 5\nmove came 0 1 5\nmove sold 0 2 4..5\ncount 0 3 0..2\n"
	huge := make([]int, 1000000)
	for _, x := range slices.Concat([]verifyCase{
		// slips
		{wheelsPart, textA, ask(api.AuditSlips, 0), nil, true}, {wheelsPart, textA, ask(api.AuditSlips, 1), []int{1, 0}, true}, {wheelsPart, textA, ask(api.AuditSlips, 0), []int{1, 0}, false}, {wheelsPart, textA, ask(api.AuditSlips, 9), []int{0, 0}, false}, {wheelsPart, textA, ask(api.AuditSlips, 9), []int{1, 1}, false}, {wheelsPart, textA, ask(api.AuditSlips, 9), []int{1, 2}, false}, {wheelsPart, textA, ask(api.AuditSlips, 9), []int{1, 3}, false}, {wheelsPart, textA, ask(api.AuditSlips, 9), []int{1, -1}, false}, {wheelsPart, textA, ask(api.AuditSlips, 9), []int{2, 0}, false}, {wheelsPart, textA, ask(api.AuditSlips, 9), []int{-1, 0}, false}, {wheelsPart, textA, ask(api.AuditSlips, 9), []int{1}, false}, {wheelsPart, textA, ask(api.AuditSlips, 9), []int{1, 0, 1}, false}, {wheelsPart, textA, ask(api.AuditSlips, 9), []int{1, 0, 1, 0}, false}, {wheelsPart, textA, ask(api.AuditSlips, 9), []int{math.MaxInt, math.MinInt}, false}, {wheelsPart, textA, ask(api.AuditSlips, math.MaxInt), huge, false},
		{wheelsPart, one, ask(api.AuditSlips, 1), []int{1, 0}, true}, {wheelsPart, one, ask(api.AuditSlips, 1), nil, false}, {wheelsPart, two, ask(api.AuditSlips, 2), []int{1, 0, 1, 1}, true}, {wheelsPart, two, ask(api.AuditSlips, 2), []int{1, 1, 1, 0}, false}, {wheelsPart, two, ask(api.AuditSlips, 2), []int{1, 1}, false}, {wheelsPart, two, ask(api.AuditSlips, 1), []int{1, 0, 1, 1}, false},
		{wheelsPart, open, ask(api.AuditSlips, 2), []int{0, 0}, true}, {wheelsPart, open, ask(api.AuditSlips, 2), []int{1, 0}, true}, {wheelsPart, open, ask(api.AuditSlips, 2), []int{0, 0, 1, 0}, false}, {wheelsPart, "wheels 0\nwheel 10 tight\nstart 5\n", ask(api.AuditSlips, 0), nil, true}, {wheelsPart, "wheels 0\nwheel 10 tight\nstart 5\n", ask(api.AuditSlips, 9), []int{0, 0}, false},
		// all that was sold
		{stripPart, textR + "took 1 65\nmade 0 2\n", ask(api.AuditWhole), []int{0, 2, 1}, true}, {stripPart, textR + "took 1 65\nmade 0 2\n", ask(api.AuditWhole), []int{0, 2}, false}, {stripPart, textR + "took 1 65\nmade 0 2\n", ask(api.AuditWhole), []int{0, 1, 2}, false}, {stripPart, textR + "took 1 65\nmade 0 2\n", ask(api.AuditWhole), nil, false}, {stripPart, textR, ask(api.AuditWhole), []int{0, 2, 1}, false}, {stripPart, textR, ask(api.AuditWhole), nil, false}, {stripPart, "strip 9 9 5 1 1\narticle 4 3\n", ask(api.AuditWhole), nil, true}, {stripPart, "strip 9 9 5 1 1\narticle 4 3\n", ask(api.AuditWhole), []int{0}, false},
		// prices
		{tagPart, textH, ask(api.AuditPlain, 123, 3), nil, true}, {tagPart, textH, ask(api.AuditPlain, 123, 3), []int{123}, false}, {tagPart, textH, ask(api.AuditPlain, 123, 3), huge, false}, {tagPart, textH, ask(api.AuditPlain, 345, 3), nil, false},
	}, []verifyCase{
		// coins
		{changePart, textD, ask(api.AuditFloat, 1), []int{0, 1, 0}, true}, {changePart, textD, ask(api.AuditFloat, 2), []int{0, 2, 0}, true}, {changePart, textD, ask(api.AuditFloat, 2), []int{1, 1, 0}, true}, {changePart, textD, ask(api.AuditFloat, 1), []int{0, 2, 0}, false}, {changePart, textD, ask(api.AuditFloat, 3), []int{0, 3, 0}, false}, {changePart, textD, ask(api.AuditFloat, 3), []int{1, 1, 1}, false}, {changePart, textD, ask(api.AuditFloat, 2), []int{0, 0, 0}, false}, {changePart, textD, ask(api.AuditFloat, 2), []int{1, 0, 0}, false}, {changePart, textD, ask(api.AuditFloat, 2), []int{0, 1}, false}, {changePart, textD, ask(api.AuditFloat, 2), []int{0, 1, 0, 0}, false}, {changePart, textD, ask(api.AuditFloat, 2), []int{0, 2, -1}, false}, {changePart, textD, ask(api.AuditFloat, 2), []int{0, math.MaxInt, math.MinInt + 2}, false}, {changePart, textD, ask(api.AuditFloat, 2), nil, false}, {changePart, textD, ask(api.AuditFloat, -1), []int{0, 1, 0}, false}, {changePart, "change 5\ndrawer 0..1\n", ask(api.AuditFloat, 0), []int{0}, true}, {changePart, "change 5\ndrawer 0..1\n", ask(api.AuditFloat, 1), []int{1}, true}, {changePart, textD, ask(api.AuditFloat, 2), huge, false},
		// machines
		{buildPart, textB, ask(api.AuditCheap, 11), []int{0, 0, 1}, true}, {buildPart, textB, ask(api.AuditCheap, 11), []int{0, 1, 0}, true}, {buildPart, textB, ask(api.AuditCheap, 10), []int{0, 1, 0}, false}, {buildPart, textB, ask(api.AuditCheap, 99), []int{0, 0, 0}, false}, {buildPart, textB, ask(api.AuditCheap, 99), []int{0, 1, 1}, false}, {buildPart, textB, ask(api.AuditCheap, 99), []int{0, 2, 0}, false}, {buildPart, textB, ask(api.AuditCheap, 99), []int{0, 0}, false}, {buildPart, textB, ask(api.AuditCheap, 99), []int{0, 0, 3}, false}, {buildPart, textB, ask(api.AuditCheap, 99), []int{0, 0, -1}, false}, {buildPart, textB, ask(api.AuditCheap, 99), nil, false}, {buildPart, textB, ask(api.AuditCheap, 13), []int{2, 1, 2}, true}, {buildPart, textB, ask(api.AuditCheap, 12), []int{2, 1, 2}, false}, {buildPart, textB, ask(api.AuditCheap, 99), huge, false},
		// sums
		{salesPart, textS, ask(api.AuditFalse, 1), []int{1}, true}, {salesPart, textS, ask(api.AuditFalse, 2), []int{0, 1}, true}, {salesPart, textS, ask(api.AuditFalse, 1), []int{0, 1}, false}, {salesPart, textS, ask(api.AuditFalse, 2), []int{0}, false}, {salesPart, textS, ask(api.AuditFalse, 2), nil, false}, {salesPart, textS, ask(api.AuditFalse, 2), []int{1, 0}, false}, {salesPart, textS, ask(api.AuditFalse, 2), []int{1, 1}, false}, {salesPart, textS, ask(api.AuditFalse, 9), []int{1, 2}, false}, {salesPart, textS, ask(api.AuditFalse, 9), []int{-1, 1}, false}, {salesPart, firm, ask(api.AuditFalse, 1), nil, true}, {salesPart, firm, ask(api.AuditFalse, 1), []int{0}, true}, {salesPart, firm, ask(api.AuditFalse, 9), []int{1}, false}, {salesPart, firm, ask(api.AuditFalse, 9), []int{0, 1}, false}, {salesPart, textS, ask(api.AuditFalse, math.MaxInt), huge, false},
		{salesPart, "sales 1\nslip given 2 0 -1 5..6 open\nslip fix 0 3 0 7 open\nsum gifts 0 1 loose\nsum dept 2 1 loose\n", ask(api.AuditFalse, 2), []int{0, 1}, true},
	}, []verifyCase{
		// clerks
		{eveningPart, textE, ask(api.AuditHands, 1), []int{0}, true}, {eveningPart, textE, ask(api.AuditHands, 1), []int{1}, true}, {eveningPart, textE, ask(api.AuditHands, 2), []int{0, 1}, true}, {eveningPart, textE, ask(api.AuditHands, 1), []int{0, 1}, false}, {eveningPart, textE, ask(api.AuditHands, 2), nil, false}, {eveningPart, textE, ask(api.AuditHands, 2), []int{1, 0}, false}, {eveningPart, textE, ask(api.AuditHands, 2), []int{0, 0}, false}, {eveningPart, textE, ask(api.AuditHands, 2), []int{2}, false}, {eveningPart, textE, ask(api.AuditHands, 2), []int{-1}, false}, {eveningPart, hands, ask(api.AuditHands, 2), []int{0, 1}, true}, {eveningPart, hands, ask(api.AuditHands, 2), []int{0, 2}, true}, {eveningPart, hands, ask(api.AuditHands, 2), []int{1, 2}, true}, {eveningPart, hands, ask(api.AuditHands, 3), []int{0, 1, 2}, true}, {eveningPart, hands, ask(api.AuditHands, 3), []int{1}, false}, {eveningPart, textE, ask(api.AuditHands, math.MaxInt), huge, false},
		// notes: these alone are false
		{stockPart, textT, ask(api.AuditBlame, 1), []int{3}, true}, {stockPart, textT, ask(api.AuditBlame, 2), []int{3}, true}, {stockPart, textT, ask(api.AuditBlame, 9), []int{0, 3}, false}, {stockPart, textT, ask(api.AuditBlame, 9), []int{0}, false}, {stockPart, textT, ask(api.AuditBlame, 9), []int{1}, false}, {stockPart, textT, ask(api.AuditBlame, 9), []int{1, 3}, false}, {stockPart, textT, ask(api.AuditBlame, 9), nil, false}, {stockPart, textT, ask(api.AuditBlame, 9), []int{3, 0}, false}, {stockPart, textT, ask(api.AuditBlame, 9), []int{3, 3}, false}, {stockPart, textT, ask(api.AuditBlame, 9), []int{4}, false}, {stockPart, textT, ask(api.AuditBlame, 9), []int{-1}, false}, {stockPart, strings.Replace(textT, "stock 10 1", "stock 10 0", 1), ask(api.AuditBlame, 1), []int{3}, true}, {stockPart, lies, ask(api.AuditBlame, 1), []int{0}, true}, {stockPart, lies, ask(api.AuditBlame, 1), []int{1}, true}, {stockPart, lies, ask(api.AuditBlame, 2), []int{0, 1}, false}, {stockPart, textT, ask(api.AuditBlame, math.MaxInt), huge, false},
		// rounds
		{tourPart, textW, ask(api.AuditRound, 2), []int{0, 2}, true}, {tourPart, textW, ask(api.AuditRound, 2), []int{0, 1}, true}, {tourPart, textW, ask(api.AuditRound, 2), []int{2, 1}, true}, {tourPart, textW, ask(api.AuditRound, 2), []int{1, 0}, false}, {tourPart, textW, ask(api.AuditRound, 2), []int{0}, false}, {tourPart, textW, ask(api.AuditRound, 1), []int{0}, true}, {tourPart, textW, ask(api.AuditRound, 1), []int{0, 1}, true}, {tourPart, textW, ask(api.AuditRound, 3), []int{0, 1, 2}, false}, {tourPart, textW, ask(api.AuditRound, 0), nil, true}, {tourPart, textW, ask(api.AuditRound, -9), []int{2}, true}, {tourPart, textW, ask(api.AuditRound, 0), []int{0, 0}, false}, {tourPart, textW, ask(api.AuditRound, 0), []int{3}, false}, {tourPart, textW, ask(api.AuditRound, 0), []int{-1}, false}, {tourPart, textW, ask(api.AuditRound, 0), huge, false},
	}) {
		if is, l := audit.Verify(parse(t, textWith(x.part, x.text)), x.q, x.proof); is != x.want || l != api.Fine {
			t.Errorf("%q, %+v, %.60s: %v, bell %d", x.text, x.q, show(x.proof), is, l)
		}
	}
}

// thresholds returns what can be asked of a file, of each kind from so few that the answer is no, or yes, to so many.
func thresholds(kind api.AuditQuestion) []api.AuditAsk {
	var all []api.AuditAsk
	switch kind {
	case api.AuditWhole:
		all = append(all, ask(kind))
	case api.AuditPlain:
		all = append(all, ask(kind, 7, 1), ask(kind, 90, 2), ask(kind, 123, 3), ask(kind, 44, 3), ask(kind, 8, 5))
	case api.AuditCheap:
		for _, n := range []int{-1, 0, 1, 4, 8, 9, 10, 11, 12, 13, 99} {
			all = append(all, ask(kind, n))
		}
	default:
		for n := range 5 {
			all = append(all, ask(kind, n-1))
		}
	}
	return all
}

// P10.4, P10.6: by whatever file, the answer is that of the chapters, and a list is a proof just if all that can have happened shows that; the answer is yes just if there is a proof, and that of Ask is one. What is no stays no for whoever asks for less.
func TestProofs(t *testing.T) {
	d := dice.Dice(10)
	are, not := map[api.AuditQuestion]int{}, map[api.AuditQuestion]int{}
	var books []api.AuditBook
	for _, text := range everyText() {
		books = append(books, parse(t, text))
	}
	for range 40 {
		books = append(books, learnt(&d, parse(t, anyText(&d, true))))
	}
	for _, b := range books {
		for kind := api.AuditSlips; kind <= api.AuditRound; kind++ {
			before := kind == api.AuditRound
			for _, q := range thresholds(kind) {
				yes, proof, l := audit.Ask(b, q)
				yes2, proof2, l2 := answerOf(b, q)
				if yes != yes2 || !slices.Equal(proof, proof2) || l != l2 {
					t.Errorf("%+v, %+v: %v, %v, bell %d, want %v, %v, %d", b, q, yes, proof, l, yes2, proof2, l2)
				}
				if l != api.Fine {
					continue
				}
				found := false
				for _, list := range append(tries(b, q), proof) {
					is, l := audit.Verify(b, q, list)
					if want := shows(b, q, list); is != want || l != api.Fine {
						t.Errorf("%+v, %+v, %v: %v, want %v, bell %d", b, q, list, is, want, l)
					}
					found = found || is
				}
				is, l := audit.Verify(b, q, proof)
				if found != yes || is != yes || l != api.Fine {
					t.Errorf("%+v, %+v: %v with %v, which is a proof: %v, and there is one: %v, bell %d", b, q, yes, proof, is, found, l)
				}
				if kind == api.AuditRound && yes && !before || kind != api.AuditRound && kind != api.AuditPlain && !yes && before {
					t.Errorf("%+v, %+v: %v, but %v before", b, q, yes, before)
				}
				before = yes
				if yes {
					are[kind]++
				} else {
					not[kind]++
				}
			}
		}
	}
	for kind := api.AuditSlips; kind <= api.AuditRound; kind++ {
		if are[kind] < 10 || not[kind] < 10 {
			t.Errorf("of the kind %d %d answers were yes, and %d were no", kind, are[kind], not[kind])
		}
	}
}

// learnt returns a file of which more is known, perhaps.
func learnt(d *dice.Dice, b api.AuditBook) api.AuditBook {
	return playOf(b, anyJournal(d, b, 8)).now
}

// P10.4: Since returns how many entries were played when the answer became for good what it is in the end.
func TestSince(t *testing.T) {
	b := file(t)
	fix := entry(api.AuditFix, 1, 1, 12, 12)
	coins, goods, way := entry(api.AuditCoins, 2, 0, 2, 2), entry(api.AuditGoods, 1, 0, 6, 6), entry(api.AuditWay, 0, 0, 2, 2)
	slip, tight := ring(1, 0, 19, 0), ring(1, 0, 0, 1)
	slips := ask(api.AuditSlips, 0)
	for _, x := range []struct {
		entries []api.AuditEntry
		q       api.AuditAsk
		want    int
	}{
		{nil, slips, 0}, {journal(coins, goods, way), slips, 0}, {journal(slip), slips, 1}, {journal(tight), slips, 0}, {journal(coins, slip, goods), slips, 2}, {journal(slip, instead(1, tight)), slips, 2}, {journal(slip, goods, instead(1, tight), instead(1, slip)), slips, 4}, {journal(slip, instead(1, tight), coins), slips, 2}, {journal(coins, slip, instead(2, none()), way), slips, 3}, {journal(slip, ring(1, 0, 0, 2)), slips, 1},
		{journal(fix), ask(api.AuditFalse), 1}, {journal(goods, fix, coins), ask(api.AuditFalse), 2}, {journal(goods, fix, coins, instead(2, none())), ask(api.AuditFalse), 4}, {journal(fix), ask(api.AuditFalse, 1), 0},
		{journal(entry(api.AuditStrip, 0, 1, 65, 65), entry(api.AuditStrip, 1, 0, 2, 2)), ask(api.AuditWhole), 2}, {journal(entry(api.AuditStrip, 1, 0, 2, 2), none(), entry(api.AuditStrip, 0, 1, 65, 65), none()), ask(api.AuditWhole), 3},
		{journal(entry(api.AuditPrice, 0, 0, 300, 399), hang("?T", 90, 90)), ask(api.AuditPlain, 19, 2), 2}, {journal(hang("?T", 90, 90)), ask(api.AuditPlain, 19, 2), 1},
		{journal(entry(api.AuditTicks, 0, 0, 2, 2), entry(api.AuditClear, 1, 0, 0, 0), entry(api.AuditSale, 1, 1, 0, 0)), ask(api.AuditHands, 1), 0}, {journal(way, entry(api.AuditCoins, 0, 0, 2, 2)), ask(api.AuditFloat, 0), 2}, {journal(entry(api.AuditSale, 1, 1, 0, 0), entry(api.AuditSale, 0, 1, 0, 0)), ask(api.AuditFloat, 1), 0},
	} {
		if n, l := audit.Since(b, x.entries, x.q); n != x.want || l != api.Fine {
			t.Errorf("%+v, %+v: since %d, want %d, bell %d", x.entries, x.q, n, x.want, l)
		}
	}
	// without a history there is no answer
	odd := parse(t, textWith(salesPart, "sales 1\nslip sold 1 0 -1 5 open\nslip back 1 0 0 6 open\n"))
	more := entry(api.AuditFix, 0, 0, 7, 7)
	for _, x := range []struct {
		entries []api.AuditEntry
		want    int
		l       api.Bell
	}{{nil, 0, api.Odds}, {journal(coins), 0, api.Odds}, {journal(coins, more), 2, api.Fine}, {journal(more, coins, instead(1, none())), 0, api.Odds}, {journal(coins, more, goods, instead(2, none()), instead(2, more)), 5, api.Fine}} {
		if n, l := audit.Since(odd, x.entries, ask(api.AuditFalse)); n != x.want || l != x.l {
			t.Errorf("%+v: since %d, want %d, bell %d", x.entries, n, x.want, l)
		}
	}
}

// turning returns a file, entries that turn answers by it, and a question of each kind whose answer they turn.
func turning(t *testing.T) (api.AuditBook, []api.AuditEntry, []api.AuditAsk) {
	parts := partsF()
	parts[buildPart] = strings.Replace(textB, "build 8", "build 7", 1)
	parts[eveningPart] = strings.Replace(textE, "count 1 177\n", "", 1)
	parts[stockPart] = strings.Replace(textT, "count 1 10 5\n", "", 1)
	parts[tourPart] = strings.NewReplacer("tour 3 1", "tour 4 1", "job 1 1 5 2", "job 1 1 3 2").Replace(textW)
	entries := journal(ring(1, 0, 19, 0), entry(api.AuditStrip, 0, 1, 65, 65), entry(api.AuditStrip, 1, 0, 2, 2), hang("?T", 90, 90), entry(api.AuditPrice, 1, 0, 559, 559), entry(api.AuditCoins, 0, 0, 2, 2), entry(api.AuditTicks, 0, 0, 2, 2), entry(api.AuditFix, 1, 1, 12, 12), entry(api.AuditMoney, 1, 0, 177, 177), entry(api.AuditGoods, 1, 10, 5, 5), entry(api.AuditWay, 0, 0, 2, 2))
	return parse(t, textOf(parts)), entries, []api.AuditAsk{ask(api.AuditSlips), ask(api.AuditWhole), ask(api.AuditPlain, 19, 2), ask(api.AuditFloat), ask(api.AuditCheap, 11), ask(api.AuditFalse), ask(api.AuditHands), ask(api.AuditBlame), ask(api.AuditRound, 3)}
}

// sinceOf returns since when the answer is that of the end.
func sinceOf(b api.AuditBook, entries []api.AuditEntry, q api.AuditAsk) (int, api.Bell) {
	end, _, l := answerOf(playOf(b, entries).now, q)
	if l != api.Fine {
		return 0, l
	}
	since := len(entries)
	for n := len(entries); n >= 0; n-- {
		yes, _, l := answerOf(playOf(b, entries[:n]).now, q)
		if yes != end || l != api.Fine {
			break
		}
		since = n
	}
	return since, api.Fine
}

// P10.4: whatever is played, and asked, Since is the first number behind which, and behind any more, the answer is that of the end.
func TestSinceOneByOne(t *testing.T) {
	d := dice.Dice(11)
	f, turns, questions := turning(t)
	turned := map[api.AuditQuestion]int{}
	for i := range 400 {
		b, entries := f, []api.AuditEntry{}
		if i%4 == 0 {
			b = parse(t, anyText(&d, true))
			entries = anyJournal(&d, b, d.Roll(api.MaxAuditEntries+1))
		} else {
			for i := range d.Roll(api.MaxAuditEntries + 1) {
				e := turns[d.Roll(len(turns))]
				if i > 0 && d.Roll(2) == 0 {
					e = instead(1+d.Roll(i), []api.AuditEntry{e, none()}[d.Roll(2)])
				}
				entries = append(entries, e)
			}
		}
		for kind, q := range questions {
			if all := thresholds(q.Kind); i%4 == 0 {
				q = all[d.Roll(len(all))]
			}
			want, bell := sinceOf(b, entries, q)
			n, l := audit.Since(b, entries, q)
			if n != want || l != bell {
				t.Fatalf("%+v, %+v, %+v: since %d, bell %d, want %d, %d", b, entries, q, n, l, want, bell)
			}
			if n > 0 {
				turned[api.AuditQuestion(kind)]++
			}
		}
	}
	for kind := range questions {
		if turned[api.AuditQuestion(kind)] < 20 {
			t.Errorf("of the kind %d only %d answers turned", kind, turned[api.AuditQuestion(kind)])
		}
	}
}
