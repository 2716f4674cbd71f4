package audit_test

import (
	"fmt"
	"math"
	"strconv"
	"strings"
	"testing"

	"nosale/api"
	"nosale/audit"
	"nosale/dice"
	"nosale/promises"
)

// The numbers of the parts, in their order.
const (
	wheelsPart = iota
	stripPart
	tagPart
	changePart
	buildPart
	salesPart
	eveningPart
	stockPart
	tourPart
	manyParts
)

// variety is texts of a part: its word, that of the file F, some that have a history, and some that have none.
type variety struct {
	word, f   string
	fine, odd []string
}

const (
	textA = "wheels 1\nwheel 12 drops\nwheel 20 tight\nwheel 10 doubles\nstart 0+0+0\nring 11+19+0 none\nring 1+0+0 none\n"
	textR = "strip 99 98 950 3 2\narticle 1 25\narticle 1 40\narticle 2 25\nentry 98 025 975 1 0\ntorn 0..2\nentry ?1 0?0 0?? -1 1\ntook 1 60..110\n"
	textH = "house MAKEPROF?? IT X\nalike EF\ntag KET 0..99999\ntag PXI 550..559\n"
	textD = "change 4+2+1\ndrawer 0\ndrawer 1..2\ndrawer 1\nsale 1 1+0+0 open\nsale 2 1+0+0 open\nsale 1 0+0+1 open\n"
	textB = "build 8 3\npart cam 4 3 2..3 0+1+2\npart gear 3 3 2 1+2\npart pawl 5 1 1..4 0+2\napart 1 1\ntrial 2+1+2 6..8\n"
	textS = "sales 1\nslip sold 1 0 -1 20..22 open\nslip credit 1 1 -1 10 open\nslip back 1 0 0 5..6 open\nslip fix 0 0 0 30 open\nsum cash 0 15..16 loose\nsum clerk 1 12 loose\n"
	textE = "evening 1 5 1 100\nclerk ann\nclerk bob\nhour 50 0\nhour 30..31 0+1\nwheel 1 2\ncount 0 150\ncount 1 177\n"
	textT = "stock 10 1\ngood tea 5 4 3\ngood rice 2 10 5..6\nmove came 0 2 4\nmove sold 0 3 2..3\nmove lost 1 4 0..1\nmove came 1 5 10\ncount 0 10 4..5\ncount 1 10 5\n"
	textW = "tour 3 1\nplace works\nplace ayr\nplace bute\nway 0 1 2..3\nway 1 2 4\nway 0 2 5\njob 1 1 5 2\njob 2 1..2 12 1\njob 0 1 20 1\n"
)

// varieties returns texts of all parts.
func varieties() [manyParts]variety {
	with := func(text, old, next string) string { return strings.Replace(text, old, next, 1) }
	return [manyParts]variety{
		wheelsPart: {"wheels", textA, []string{
			"wheels 0\nwheel 10 tight\nstart 5\n",
			"wheels 2\nwheel 10 doubles\nwheel 10 drops\nwheel 10 tight\nstart 8+8+0\nring 2+0+0 none\nring 5+0+0 none\n",
			"wheels 1\nwheel 3 drops\nwheel 4 doubles\nwheel 2 tight\nstart -1+-1+0\nring 2+3+0 none\nring 1+0+1 -1+2+-1\n",
			"wheels 2\nwheel 2 drops\nwheel 2 drops\nwheel 3 tight\nstart 1+-1+0\nring 1+1+0 none\nring 1+0+1 none\nring 1+1+1 0+-1+1\n",
			with(textA, "1+0+0 none", "1+0+0 0+19+0"),
		}, []string{with(textA, "1+0+0 none", "1+0+0 0+0+2")}},
		stripPart: {"strip", textR, []string{
			"strip 9 9 5 1 1\narticle 4 3\n",
			"strip 9 8 0 1 2\narticle 0 10\narticle 3 7\ntorn 0..1\ntorn 0..1\nentry ? 0?? ? -1 -1\nall 1..2\nsold 1 1..9\n",
			textR + "took 1 65\nmade 0 2\n",
		}, []string{"strip 99 98 950 3 2\narticle 1 25\narticle 1 40\nentry 98 025 976 1 0\nall 1\n", textR + "sold 1 0\n"}},
		tagPart: {"tag", textH, []string{
			"house MAKEPROFIT - -\n", textH + "tag ?T 90\n", "house MAKEPR???? OFIT -\ntag OF 78\ntag IO 97\ntag TOF 78\n",
		}, []string{"house MAKEPROF?? IT X\nalike EF\ntag KET 0..99999\ntag PXI 550\ntag ?T 90\n"}},
		changePart: {"change", textD, []string{
			"change 5\ndrawer 0..1\n", textD + "first 2 1\n",
			"change 5+2\ndrawer 0..1\ndrawer 0..1\nsale 3 1+0 refused\nsale 5 1+0 went\nsale 0 0+1 went\nfirst 1 0\n",
			"change 9+5\ndrawer 0\ndrawer 0..1\nsale 1 1+0 open\nsale 4 1+0 open\n",
			"change 5+1\ndrawer 0..1\ndrawer 0\nsale 4 1+0 open\nsale 0 0+1 open\ncount 0 1\n",
			"change 5+4\ndrawer 0\ndrawer 0..1\nsale 1 1+0 open\nsale 1 1+0 open\ncount 1 0\n",
		}, []string{textD + "first 1 1\n", textD + "count 0 2\ncount 2 2\n"}},
		buildPart: {"build", textB, []string{
			"build 8 3\npart cam 4 3 2..3 0\npart gear 3 3 2 1+2\npart pawl 5 1 1..4 0\napart 1 1\n",
			"build 8 1\npart a 1 1 2 0\n", "build 1 1\npart a 0 0 0 none\n", with(textB, "build 8", "build 6"), with(textB, "build 8", "build 3"),
			"build 9 2\npart a 7 1 1..4 0+1\npart b 2 2 3..6 0+1\napart 0 0\ntrial 0+1 7..8\ntrial 1+1 6..9\n",
		}, []string{textB + "trial 2+1+2 9\n"}},
		salesPart: {"sales", textS, []string{
			"sales 0\n", textS + "sum dept 1 25..26 firm\n",
			"sales 2\nslip sold 0 0 -1 9 open\nslip fix 0 0 0 5 yes\nslip credit 0 0 -1 8 open\nslip fix 0 1 0 6..7 yes\nslip back 0 1 2 6 open\n",
			"sales 2\nslip sold 4 3 -1 100 open\nslip credit 3 2 -1 50..52 open\nslip given 4 0 -1 7 open\nslip fix 0 3 1 31..33 open\nsum cash 0 110..113 loose\nsum dept 4 107 firm\nsum clerk 3 80 loose\nsum debt 0 32 loose\nsum gifts 0 7 loose\n",
		}, []string{
			"sales 2\nslip sold 1 0 -1 5 open\nslip fix 0 0 0 6 open\nsum cash 0 5 loose\nsum gifts 0 1 firm\n",
			"sales 1\nslip given 2 0 -1 5..6 open\nslip fix 0 3 0 7 open\nsum gifts 0 1 loose\nsum dept 2 1 loose\n",
		}},
		eveningPart: {"evening", textE, []string{
			"evening 0 0 0 5\nhour 3 none\n",
			"evening 2 2 0 10\nclerk ann\nclerk bob\nhour 5 0\nhour 5 1\ncount 1 17\n",
			"evening 0 0 1 100\nhour 50 none\nwheel 0 5\nwheel 0 -5\ncount 0 145\n",
			"evening 2 5 1 20..21\nclerk ann\nclerk bob\nclerk cid\nhour 10 0+1\nhour 10..12 2\nhour 0 0+2\nwheel 0 1\nwheel 1 -2\nwheel 2 3\ncount 0 30..31\n",
			"evening 2 3 0 20\nclerk ann\nclerk bob\nclerk cid\nhour 10 0+1+2\nhour 10 1+2\ncount 0 28\n",
		}, []string{with(textE, "177", "190")}},
		stockPart: {"stock", textT, []string{
			"stock 1 0\ngood tea 0 1 0\n",
			"stock 2 1\ngood a 1 1 0..1\ngood b 1 1 2\nmove sold 0 1 3\nmove given 1 1 0..2\nmove came 0 1 2..3\nmove back 1 1 1\ncount 0 1 0..9\n",
			"stock 20 2\ngood flour 3 20 10\ngood salt 0 1 0\nmove came 0 1 20\nmove sold 0 2 5..6\nmove lost 0 2 0..2\nmove given 0 9 1\nmove back 0 20 1..2\nmove came 1 20 7\ncount 0 20 24..26\n",
			"stock 3 2\ngood a 1 1 0..2\nmove came 0 1 5\nmove came 0 1 5\nmove came 0 2 4..5\ncount 0 3 6..7\n",
		}, []string{with(textT, "stock 10 1", "stock 10 0"), "stock 3 2\ngood tea 1 1 0\nmove sold 0 1 1\ncount 0 3 0\n"}},
		tourPart: {"tour", textW, []string{
			"tour 0 0\nplace works\n", textW + "note 0+1 6..7\n",
			"tour 9 0\nplace works\nplace ayr\nplace oban\nway 0 1 2..3\nway 1 2 2\nway 0 2 4..5\njob 2 0..1 9 none\njob 2 0..1 9 none\njob 1 1 4 none\n",
		}, []string{textW + "note 0+1 9\nnote 1 4\n"}},
	}
}

// textOf is the text of a file whose parts have some texts.
func textOf(parts [manyParts]string) string {
	var text strings.Builder
	for i, v := range varieties() {
		text.WriteString("part " + v.word + " " + strconv.Itoa(strings.Count(parts[i], "\n")) + "\n" + parts[i])
	}
	return text.String()
}

// partsF returns the texts of the parts of the file F.
func partsF() [manyParts]string {
	var parts [manyParts]string
	for i, v := range varieties() {
		parts[i] = v.f
	}
	return parts
}

// textF is the text of the file F.
func textF() string { return textOf(partsF()) }

// textWith is the text of F with another text of a part.
func textWith(part int, text string) string {
	parts := partsF()
	parts[part] = text
	return textOf(parts)
}

// anyText returns the text of any file; the history of some of its parts can be missing.
func anyText(d *dice.Dice, odd bool) string {
	var parts [manyParts]string
	for i, v := range varieties() {
		all := append([]string{v.f, v.f}, v.fine...)
		if odd {
			all = append(all, v.odd...)
		}
		parts[i] = all[d.Roll(len(all))]
	}
	return textOf(parts)
}

// everyText returns the text of F, and texts in which another variety of a part, each once, stands in its place.
func everyText() []string {
	texts := []string{textF()}
	for i, v := range varieties() {
		for _, text := range append(v.fine, v.odd...) {
			texts = append(texts, textWith(i, text))
		}
	}
	return texts
}

// layer is how this layer is held to what is promised of all of them.
func layer() promises.Layer[api.AuditBook] {
	return promises.Layer[api.AuditBook]{Print: audit.Write, Parse: audit.Read, LineBells: true, Show: show}
}

// parse reads a text that has no bell.
func parse(t *testing.T, text string) api.AuditBook {
	t.Helper()
	b, line, l := audit.Read(text)
	if l != api.Fine || line != 0 {
		t.Fatalf("%q: bell %d in line %d", text, l, line)
	}
	return b
}

// file is the file F.
func file(t *testing.T) api.AuditBook {
	t.Helper()
	return parse(t, textF())
}

// written is the text of a file that has no bell.
func written(t *testing.T, b api.AuditBook) string {
	t.Helper()
	text, l := audit.Write(b)
	if l != api.Fine {
		t.Fatalf("%+v: bell %d", b, l)
	}
	return text
}

// show writes values so that nil and empty slices look the same.
func show(values ...any) string { return fmt.Sprintf("%+v", values) }

// to returns the span from a to b.
func to(a, b int) api.Span { return api.Span{Low: a, High: b} }

// one returns the span of one number.
func one(n int) api.Span { return to(n, n) }

// entry returns an entry that uses A, B and Many.
func entry(kind api.AuditKind, a, b, low, high int) api.AuditEntry {
	return api.AuditEntry{Kind: kind, A: a, B: b, Many: to(low, high)}
}

// ring returns an entry of a ring that was read.
func ring(ring int, digits ...int) api.AuditEntry {
	return api.AuditEntry{Kind: api.AuditRing, A: ring, L: digits}
}

// hang returns an entry of a tag.
func hang(reads string, low, high int) api.AuditEntry {
	return api.AuditEntry{Kind: api.AuditHang, S: reads, Many: to(low, high)}
}

// at returns an entry of a day.
func at(day int, e api.AuditEntry) api.AuditEntry {
	e.Day = day
	return e
}

// instead returns an entry that corrects another one.
func instead(of int, e api.AuditEntry) api.AuditEntry {
	e.For = of
	return e
}

// journal returns entries as a list.
func journal(entries ...api.AuditEntry) []api.AuditEntry { return entries }

// ask returns a question.
func ask(kind api.AuditQuestion, numbers ...int) api.AuditAsk {
	q := api.AuditAsk{Kind: kind}
	if len(numbers) > 0 {
		q.A = numbers[0]
	}
	if len(numbers) > 1 {
		q.B = numbers[1]
	}
	return q
}

// known is an entry that can be done with F, the part that it changes, and the text of that then.
type known struct {
	e    api.AuditEntry
	part int
	text string
}

// news returns an entry of each kind that can be done with F, and some more.
func news() []known {
	with := func(text, old, next string) string { return strings.Replace(text, old, next, 1) }
	return []known{
		{ring(1, 0, 19, 0), wheelsPart, with(textA, "ring 1+0+0 none", "ring 1+0+0 0+19+0")},
		{entry(api.AuditStrip, 0, 1, 65, 70), stripPart, textR + "took 1 65..70\n"},
		{entry(api.AuditPrice, 1, 0, 559, 600), tagPart, with(textH, "550..559", "559")},
		{hang("?T", 90, 90), tagPart, textH + "tag ?T 90\n"},
		{entry(api.AuditSale, 1, 0, 0, 0), changePart, with(textD, "sale 2 1+0+0 open", "sale 2 1+0+0 refused")},
		{entry(api.AuditSale, 0, 1, 0, 0), changePart, with(textD, "sale 1 1+0+0 open", "sale 1 1+0+0 went")},
		{entry(api.AuditCoins, 2, 0, 2, 2), changePart, textD + "count 2 2\n"},
		{entry(api.AuditTicks, 0, 0, 3, 9), buildPart, with(textB, "4 3 2..3", "4 3 3")},
		{entry(api.AuditSign, 3, 0, 0, 0), salesPart, with(textS, "0 30 open", "0 30 no")},
		{entry(api.AuditFix, 1, 2, 12, 13), salesPart, with(textS, "sum", "slip fix 0 2 1 12..13 yes\nsum")},
		{entry(api.AuditClear, 1, 0, 0, 0), eveningPart, with(textE, "30..31 0+1", "30..31 1")},
		{entry(api.AuditGoods, 1, 3, 6, 7), stockPart, textT + "count 1 3 6..7\n"},
		{entry(api.AuditWay, 0, 0, 0, 2), tourPart, with(textW, "0 1 2..3", "0 1 2")},
	}
}

// numbers returns numbers within and out of all bounds.
func numbers() []int {
	return []int{math.MinInt, -1, 0, 1, 2, 3, 11, 14, 366, 367, 999999999, 1000000000, math.MaxInt}
}

// proofs returns lists that can be proofs, and others.
func proofs() [][]int {
	return [][]int{nil, {0}, {1}, {3}, {0, 1}, {1, 0}, {0, 2}, {0, 0}, {0, 0, 1}, {0, 1, 0}, {0, 2, 1}, {1, 0, 1}, {0, -1, 0}, {-1}, {math.MaxInt, math.MaxInt}, {math.MinInt, 1, 1}, {0, 0, 1, 0}, make([]int, 1000)}
}

// journals returns lists of entries.
func journals() [][]api.AuditEntry {
	var each []api.AuditEntry
	for _, x := range news() {
		each = append(each, x.e)
	}
	huge := api.AuditEntry{Day: math.MaxInt, For: math.MinInt, Kind: math.MaxInt, A: math.MinInt, B: math.MaxInt, L: []int{math.MinInt}, Many: to(math.MaxInt, math.MinInt), S: "\xff \n"}
	return [][]api.AuditEntry{
		nil, each[:12], each[1:], each,
		journal(ring(1, 0, 19, 0), instead(1, ring(1, 0, 0, 1)), instead(1, ring(1, 0, 0, 2))),
		journal(huge, instead(0, huge), instead(1, huge)),
		journal(at(5, entry(api.AuditCoins, 2, 0, 2, 2)), at(4, api.AuditEntry{}), at(6, instead(1, api.AuditEntry{}))),
	}
}

// report calls each function with a file, and writes all results.
func report(b api.AuditBook) string {
	var out strings.Builder
	put := func(name string, values ...any) { fmt.Fprintln(&out, name, show(values...)) }
	put("Check", audit.Check(b))
	text, l := audit.Write(b)
	put("Write", text, l)
	seal, l := audit.Seal(b)
	put("Seal", seal, l)
	for kind := api.AuditNone - 1; kind <= api.AuditWay+1; kind++ {
		reportKind(b, kind, put)
	}
	for kind := api.AuditSlips - 1; kind <= api.AuditRound+1; kind++ {
		reportQuestion(b, kind, put)
	}
	for _, entries := range journals() {
		reportJournal(b, entries, put)
	}
	other := b
	other.Stock.Days++
	put("Differ", show(audit.Differ(b, other)), show(audit.Differ(other, b)))
	put("Merge", show(audit.Merge(b, b, other)), show(audit.Merge(b, other, b)), show(audit.Merge(other, b, b)))
	return out.String()
}

// reportKind calls Do with entries of a kind.
func reportKind(b api.AuditBook, kind api.AuditKind, put func(name string, values ...any)) {
	for _, n := range numbers() {
		for _, e := range journal(entry(kind, n, 0, 0, 0), entry(kind, 0, n, 0, 9), entry(kind, 1, 1, 0, n), at(n, entry(kind, 0, 0, 0, 9)), instead(n, entry(kind, 0, 0, 0, 9)), api.AuditEntry{Kind: kind, A: 1, L: []int{n, 0, 0}}, api.AuditEntry{Kind: kind, S: strings.Repeat("T", max(0, min(n, 9))), Many: to(0, 9)}) {
			o, l := audit.Do(b, e)
			put("Do", e, o, l)
		}
	}
}

// reportQuestion calls Ask and Verify with questions of a kind.
func reportQuestion(b api.AuditBook, kind api.AuditQuestion, put func(name string, values ...any)) {
	for _, n := range numbers() {
		for _, q := range []api.AuditAsk{ask(kind, n), ask(kind, 0, n), ask(kind, n, 3)} {
			yes, proof, l := audit.Ask(b, q)
			is, l2 := audit.Verify(b, q, proof)
			put("Ask, Verify", q, yes, proof, is, l, l2)
		}
	}
	for _, proof := range proofs() {
		for _, n := range []int{1, 99} {
			is, l := audit.Verify(b, ask(kind, n), proof)
			put("Verify", kind, n, proof, is, l)
		}
	}
}

// reportJournal calls each function that takes entries.
func reportJournal(b api.AuditBook, entries []api.AuditEntry, put func(name string, values ...any)) {
	bells, now, l := audit.Play(b, entries)
	stands, l2 := audit.Stands(b, entries)
	put("Play, Stands", bells, now, stands, l, l2)
	for _, day := range numbers() {
		o, l := audit.Till(b, entries, day)
		put("Till", day, o, l)
	}
	text, l := audit.Keep(b, entries)
	put("Keep", text, l)
	for _, text := range []string{text, strings.TrimSuffix(text, "\n"), text + "\n", "journal 0\nentry\n"} {
		line, fault, o, l := audit.Inspect(b, text)
		put("Inspect", line, fault, o, l)
	}
	for kind := api.AuditSlips - 1; kind <= api.AuditRound+1; kind++ {
		for _, q := range []api.AuditAsk{ask(kind), ask(kind, 1), ask(kind, 19, 2)} {
			n, l := audit.Since(b, entries, q)
			put("Since", q, n, l)
		}
	}
}
