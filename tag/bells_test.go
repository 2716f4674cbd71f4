package tag_test

import (
	"math"
	"slices"
	"strings"
	"testing"

	"nosale/api"
	"nosale/tag"
)

// bellCase is a change of the house H, and the bell that it has then.
type bellCase struct {
	name   string
	change func(h *api.TagHouse)
	want   api.Bell
}

// letterCases are those of letters, and of what is spare and repeats.
func letterCases() []bellCase {
	set := func(letters, spare, repeat string) func(h *api.TagHouse) {
		return func(h *api.TagHouse) { h.Letters, h.Spare, h.Repeat = letters, spare, repeat }
	}
	return []bellCase{
		{"the house H", func(h *api.TagHouse) {}, api.Fine},
		{"all letters known", set("MAKEPROFIT", "", ""), api.Fine}, {"nothing", set("", "", ""), api.Shape}, {"too few letters", set("MAKEPROFI", "", ""), api.Shape}, {"too many letters", set("MAKEPROFITS", "", ""), api.Shape}, {"very many letters", set(strings.Repeat("A", 1000), "", ""), api.Shape}, {"too few bytes, one not known", set("MAKEPROF?", "I", ""), api.Shape},
		{"the first and the last letter", set("AZKEPROFIT", "", ""), api.Fine}, {"a small letter", set("MAKEPROFIt", "", ""), api.Shape}, {"a byte below A", set("@AKEPROFIT", "", ""), api.Shape}, {"a byte above Z", set("[AKEPROFIT", "", ""), api.Shape}, {"a digit", set("M1KEPROFIT", "", ""), api.Shape}, {"a blank", set("MAKEP OFIT", "", ""), api.Shape}, {"another letter", set("MAKEPROFÉ", "", ""), api.Shape}, {"another letter, eleven bytes", set("MAKEPROFIÉ", "", ""), api.Shape}, {"no text", set("MAKEPROFI\xff", "", ""), api.Shape}, {"a minus", set("MAKEPROFI-", "", ""), api.Shape},
		{"spare is a smudge", set("MAKEPROFI?", "?", ""), api.Shape}, {"spare is a small letter", set("MAKEPROFI?", "t", ""), api.Shape}, {"spare is a byte below A", set("MAKEPROFI?", "@", ""), api.Shape}, {"spare is a byte above Z", set("MAKEPROFI?", "[", ""), api.Shape}, {"spare is another letter", set("MAKEPROF??", "É", ""), api.Shape}, {"spare is no text", set("MAKEPROFI?", "\xff", ""), api.Shape}, {"spare has a letter, and none", set("MAKEPROF??", "I-", ""), api.Shape},
		{"repeats", set("MAKEPROFIT", "", "S"), api.Fine}, {"repeats the first letter", set("MZKEPROFIT", "", "A"), api.Fine}, {"repeats the last letter", set("MAKEPROFIT", "", "Z"), api.Fine}, {"two repeat", set("MAKEPROFIT", "", "SX"), api.Shape}, {"a small letter repeats", set("MAKEPROFIT", "", "x"), api.Shape}, {"a smudge repeats", set("MAKEPROFIT", "", "?"), api.Shape}, {"a blank repeats", set("MAKEPROFIT", "", " "), api.Shape}, {"no text repeats", set("MAKEPROFIT", "", "\xff"), api.Shape}, {"another letter repeats", set("MAKEPROFIT", "", "É"), api.Shape},
		{"nothing is spare", set("MAKEPROF??", "", ""), api.Count}, {"too few are spare", set("MAKEPROF??", "I", ""), api.Count}, {"too many are spare", set("MAKEPROF??", "ITS", ""), api.Count}, {"one is spare for nothing", set("MAKEPROFIT", "S", ""), api.Count}, {"spare at the limit", set("??KEPR??IT", "MAOF", "X"), api.Fine}, {"spare above the limit", set("??KEP???IT", "MAOFR", "X"), api.Count}, {"all are spare", set("??????????", "MAKEPROFIT", ""), api.Count}, {"none known, and none spare", set("??????????", "", ""), api.Count}, {"very many are spare", set("MAKEPROF??", strings.Repeat("S", 1000), ""), api.Count},
		{"a letter twice", set("MAKEPROFIM", "", ""), api.Twice}, {"a letter twice in a row", set("MMKEPROFIT", "", ""), api.Twice}, {"a spare letter is known", set("MAKEPROF??", "IM", ""), api.Twice}, {"a spare letter twice", set("MAKEPROF??", "II", ""), api.Twice}, {"a letter of the word repeats", set("MAKEPROFIT", "", "M"), api.Twice}, {"a spare letter repeats", set("MAKEPROF??", "IT", "T"), api.Twice},
		// the first one decides
		{"letters without their form, and two repeat", set("MAKEPROFI", "I", "XY"), api.Shape}, {"a smudge is spare, and too few", set("MAKEPROF??", "?", ""), api.Shape}, {"two repeat, and too few are spare", set("MAKEPROF??", "I", "XY"), api.Shape}, {"a letter twice, and too few are spare", set("MAKEPROM??", "I", ""), api.Count}, {"a letter twice, and too many are spare", set("MAKEPMMMMM", "IT", "M"), api.Count},
	}
}

// pairCases are those of letters that look alike.
func pairCases() []bellCase {
	alike := func(pairs ...string) func(h *api.TagHouse) {
		return func(h *api.TagHouse) { h.Alike = pairs }
	}
	return []bellCase{
		{"no pair", alike(), api.Fine}, {"pairs at the limit", alike("EF", "MK", "AB", "YZ"), api.Fine}, {"pairs above the limit", alike("EF", "MK", "AB", "YZ", "PR"), api.Count}, {"pairs that share letters", alike("EF", "FK", "KE", "EA"), api.Fine}, {"letters that do not stand for anything", alike("QS", "XZ"), api.Fine},
		{"an empty pair", alike(""), api.Shape}, {"half a pair", alike("E"), api.Shape}, {"three letters", alike("EFK"), api.Shape}, {"a smudge", alike("E?"), api.Shape}, {"a smudge first", alike("?E"), api.Shape}, {"small letters", alike("ef"), api.Shape}, {"one small letter", alike("Ef"), api.Shape}, {"another letter", alike("É"), api.Shape}, {"no text", alike("E\xff"), api.Shape}, {"a digit", alike("O0"), api.Shape},
		{"the same letter", alike("EE"), api.Twice}, {"a pair twice", alike("EF", "EF"), api.Twice}, {"a pair turned", alike("EF", "FE"), api.Twice}, {"a pair turned later", alike("AB", "EF", "BA"), api.Twice},
		// the first one decides
		{"a wrong pair before one twice", alike("E", "AB", "AB"), api.Shape}, {"a pair twice before a wrong one", alike("AB", "AB", "E"), api.Twice}, {"too many pairs, all wrong", alike("", "", "", "", ""), api.Count}, {"three same letters", alike("EEE"), api.Shape},
		{"a letter twice before a wrong pair", func(h *api.TagHouse) { h.Letters, h.Alike = "MAKEPROM??", []string{"E"} }, api.Twice},
		{"too many pairs, and a letter twice", func(h *api.TagHouse) { h.Letters, h.Alike = "MAKEPROM??", make([]string, 9) }, api.Twice},
	}
}

// tagCases are those of tags.
func tagCases() []bellCase {
	reads := func(s string) func(h *api.TagHouse) { return func(h *api.TagHouse) { h.Tags[1].Reads = s } }
	price := func(a, b int) func(h *api.TagHouse) { return func(h *api.TagHouse) { h.Tags[1].Price = to(a, b) } }
	tags := func(n int) func(h *api.TagHouse) {
		return func(h *api.TagHouse) { h.Tags = slices.Repeat(h.Tags[:1], n) }
	}
	both := func(one, other func(h *api.TagHouse)) func(h *api.TagHouse) {
		return func(h *api.TagHouse) { one(h); other(h) }
	}
	return []bellCase{
		{"no tag", tags(0), api.Fine}, {"tags at the limit", tags(api.MaxTagTags), api.Fine}, {"tags above the limit", tags(api.MaxTagTags + 1), api.Count}, {"too many tags, all wrong", func(h *api.TagHouse) { h.Tags = make([]api.TagTag, api.MaxTagTags+1) }, api.Count},
		{"one letter", reads("M"), api.Fine}, {"no letter", reads(""), api.Count}, {"letters at the limit", reads("MAKEP"), api.Fine}, {"letters above the limit", reads("MAKEPR"), api.Count}, {"very many letters", reads(strings.Repeat("M", 1000)), api.Count}, {"letters of no house", reads("QZ"), api.Fine}, {"the repeater first", reads("XM"), api.Fine},
		{"a small letter", reads("Ma"), api.Shape}, {"a digit", reads("M1"), api.Shape}, {"a blank", reads("M K"), api.Shape}, {"a byte below A", reads("@"), api.Shape}, {"a byte above Z", reads("["), api.Shape}, {"a byte beside the smudge", reads(">"), api.Shape}, {"another letter", reads("É"), api.Shape}, {"no text", reads("M\xff"), api.Shape},
		{"smudges at the limit", reads("?M?"), api.Fine}, {"smudges alone", reads("??"), api.Fine}, {"smudges above the limit", reads("?M?K?"), api.Count}, {"smudges above the limit, alone", reads("???"), api.Count},
		{"price at both limits", price(0, api.MaxTagPrice), api.Fine}, {"one price", price(550, 550), api.Fine}, {"price below 0", price(-1, 5), api.Bound}, {"price all below 0", price(-5, -1), api.Bound}, {"price above the limit", price(0, api.MaxTagPrice+1), api.Bound}, {"price that is no span", price(5, 4), api.Bound}, {"price very great", price(math.MinInt, math.MaxInt), api.Bound}, {"price that the letters do not have", price(1, 1), api.Fine},
		// the first one decides
		{"too many letters, one of them small", reads("MAKEPr"), api.Count}, {"a small letter and too many smudges", reads("???a"), api.Shape}, {"too many smudges, and a price below 0", both(reads("???"), price(-1, 0)), api.Count}, {"a small letter, and a price below 0", both(reads("m"), price(-1, 0)), api.Shape}, {"a price below 0 before too many letters", both(reads(""), func(h *api.TagHouse) { h.Tags[0].Price.Low = -1 }), api.Bound},
		{"a wrong pair before too many tags", both(tags(6), func(h *api.TagHouse) { h.Alike = []string{"EE"} }), api.Twice},
	}
}

// bellCases returns all cases.
func bellCases() []bellCase {
	return slices.Concat(letterCases(), pairCases(), tagCases())
}

// P3.1, P0.2: CheckHouse returns the first bell, which all functions return then, with nothing else.
func TestBells(t *testing.T) {
	for _, x := range bellCases() {
		h := parse(t, textH)
		x.change(&h)
		if l := tag.CheckHouse(h); l != x.want {
			t.Errorf("%s: bell %d, want %d", x.name, l, x.want)
		}
		if x.want != api.Fine {
			onlyBell(t, x.name, h, x.want)
		}
	}
}

// onlyBell tells whether all functions return the bell of a house, and nothing else, even if they are asked for what is not there.
func onlyBell(t *testing.T, name string, h api.TagHouse, want api.Bell) {
	t.Helper()
	for _, n := range []int{0, -1} {
		words, l := tag.Words(h)
		letters, l2 := tag.Letters(h, n)
		digits, l3 := tag.Digits(h, "")
		prices, l4 := tag.Prices(h, n)
		means, l5 := tag.Means(h, "")
		writes, l6 := tag.Writes(h, n, 1)
		settled, l7 := tag.Settled(h)
		misread, l8 := tag.Misread(h, n)
		plain, l9 := tag.Plain(h, n, 1)
		clash, l10 := tag.Clash(h)
		index, left, l11 := tag.Ask(h)
		learnt, l12 := tag.Learn(h, n, to(-1, 0))
		known, l13 := tag.Know(h, n, "")
		hung, l14 := tag.Hang(h, api.TagTag{})
		text, l15 := tag.Print(h)
		for i, l := range []api.Bell{l, l2, l3, l4, l5, l6, l7, l8, l9, l10, l11, l12, l13, l14, l15} {
			if l != want {
				t.Errorf("%s: function %d has the bell %d, want %d", name, i, l, want)
			}
		}
		none := []int{}
		got := show(words, letters, digits, prices, means, writes, settled, misread, plain, clash, index, left, learnt, known, hung, text)
		zero := show(0, "", none, none, none, []string{}, false, api.Open, false, none, 0, 0, api.TagHouse{}, api.TagHouse{}, api.TagHouse{}, "")
		if got != zero {
			t.Errorf("%s: %s together with a bell", name, got)
		}
	}
}

// P0.2: what is asked about and is not there is Missing, what is no digit Bound, and what is no letter Shape, before it is Odds that there is no history; Odds comes with nothing else.
func TestBellsBeforeOdds(t *testing.T) {
	for _, text := range []string{textC, textOdd} {
		h := parse(t, text)
		for _, n := range []int{math.MinInt, -1, len(h.Tags), math.MaxInt} {
			prices, l := tag.Prices(h, n)
			misread, l2 := tag.Misread(h, n)
			learnt, l3 := tag.Learn(h, n, to(-1, 0))
			if got := show(prices, misread, learnt, l, l2, l3); got != show([]int{}, api.Open, api.TagHouse{}, api.Missing, api.Missing, api.Missing) {
				t.Errorf("%q, tag %d: %s", text, n, got)
			}
		}
		for _, n := range []int{math.MinInt, -1, 10, math.MaxInt} {
			letters, l := tag.Letters(h, n)
			known, l2 := tag.Know(h, n, "")
			if got := show(letters, known, l, l2); got != show("", api.TagHouse{}, api.Bound, api.Bound) {
				t.Errorf("%q, digit %d: %s", text, n, got)
			}
		}
		for _, s := range []string{"", "m", "MA", "?", "@", "[", "É", "\xff", "-"} {
			digits, l := tag.Digits(h, s)
			known, l2 := tag.Know(h, 1, s)
			if got := show(digits, known, l, l2); got != show([]int{}, api.TagHouse{}, api.Shape, api.Shape) {
				t.Errorf("%q, letter %q: %s", text, s, got)
			}
		}
		onlyOdds(t, h)
	}
}

// onlyOdds tells whether all functions that need a history return Odds, and the others do not; M stands for 1 in the house.
func onlyOdds(t *testing.T, h api.TagHouse) {
	t.Helper()
	words, l := tag.Words(h)
	letters, l2 := tag.Letters(h, 1)
	digits, l3 := tag.Digits(h, "M")
	prices, l4 := tag.Prices(h, 0)
	means, l5 := tag.Means(h, "M")
	writes, l6 := tag.Writes(h, 1, 1)
	settled, l7 := tag.Settled(h)
	misread, l8 := tag.Misread(h, 0)
	plain, l9 := tag.Plain(h, 1, 1)
	index, left, l10 := tag.Ask(h)
	learnt, l11 := tag.Learn(h, 0, to(0, api.MaxTagPrice))
	known, l12 := tag.Know(h, 1, "M")
	hung, l13 := tag.Hang(h, api.TagTag{Reads: "M", Price: to(1, 1)})
	for i, l := range []api.Bell{l, l2, l3, l4, l5, l6, l7, l8, l9, l10, l11, l12, l13} {
		if l != api.Odds {
			t.Errorf("function %d has the bell %d", i, l)
		}
	}
	none := []int{}
	got := show(words, letters, digits, prices, means, writes, settled, misread, plain, index, left, learnt, known, hung)
	if zero := show(0, "", none, none, none, []string{}, false, api.Open, false, 0, 0, api.TagHouse{}, api.TagHouse{}, api.TagHouse{}); got != zero {
		t.Errorf("%s together with Odds", got)
	}
	if list, l := tag.Clash(h); len(list) == 0 || l != api.Fine {
		t.Errorf("Clash: %v, bell %d", list, l)
	}
	if text, l := tag.Print(h); text == "" || l != api.Fine {
		t.Errorf("Print: bell %d", l)
	}
}
