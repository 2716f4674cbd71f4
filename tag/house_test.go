package tag_test

import (
	"fmt"
	"math"
	"slices"
	"strings"
	"testing"

	"nosale/api"
	"nosale/promises"
	"nosale/tag"
)

// The houses H, G and C of the chapter's examples, and some more.
const (
	textH = "house MAKEPROF?? IT X\nalike EF\ntag KET 0..99999\ntag PXI 550..559\n"
	textG = textH + "tag ?T 90\n"
	textC = "house MAKEPROF?? IT X\nalike EF\ntag KET 0..99999\ntag PXI 550\ntag ?T 90\n"
	// all letters are known, and there is no repeater
	textK = "house MAKEPROFIT - -\n"
	// as many of all as there can be
	textAll = "house ????CDEFGH BAJI Z\nalike AB\nalike BC\nalike CZ\nalike AQ\ntag A?Q?B 0..99999\ntag CZZ 1..600\ntag I 0..9\ntag J? 0..99\ntag ?? 0..99\n"
	// no letters can stand on the tag 1
	textOdd = "house MAKEPROFIT - X\ntag M 1\ntag MM 0..99999\n"
	// one word alone is possible
	textSure = "house MAKEPR???? OFIT -\ntag OF 78\ntag IO 97\ntag TOF 78\n"
)

// texts returns the texts of all houses above.
func texts() []string { return []string{textH, textG, textC, textK, textAll, textOdd, textSure} }

// parse reads a text that has no bell.
func parse(t *testing.T, text string) api.TagHouse {
	t.Helper()
	h, line, l := tag.Parse(text)
	if l != api.Fine || line != 0 {
		t.Fatalf("%q: bell %d in line %d", text, l, line)
	}
	return h
}

// to returns the span from a to b.
func to(a, b int) api.Span { return api.Span{Low: a, High: b} }

// clone returns a house that shares no memory with h.
func clone(h api.TagHouse) api.TagHouse {
	h.Alike = slices.Clone(h.Alike)
	h.Tags = slices.Clone(h.Tags)
	return h
}

// show writes values so that nil and empty slices look the same.
func show(values ...any) string { return fmt.Sprintf("%+v", values) }

// numbers returns numbers within and out of all bounds.
func numbers() []int { return []int{math.MinInt, -1, 0, 1, 2, 4, 5, 9, 10, math.MaxInt} }

// signs returns texts that are a letter, and some that are none.
func signs() []string {
	return []string{"", "A", "I", "T", "X", "Z", "a", "?", "-", "@", "[", "1", " ", "AB", "É", "\xff", "\x00"}
}

// looks returns texts that can be read on a tag, and some that cannot.
func looks() []string {
	return []string{"", "M", "?", "XM", "MX", "?T", "A?Q", "MAKEP", "???", "MAKEPR", "m", "K E", "É", "\xff"}
}

// prices returns spans that are some of prices, and some that are not.
func prices() []api.Span {
	return []api.Span{to(0, 99999), to(90, 90), to(2, 1), to(-1, 5), to(0, 100000), to(math.MinInt, math.MaxInt)}
}

// report calls each function with a house, and writes all results.
func report(h api.TagHouse) string {
	var out strings.Builder
	put := func(name string, values ...any) { fmt.Fprintln(&out, name, show(values...)) }
	put("CheckHouse", tag.CheckHouse(h))
	n, l := tag.Words(h)
	put("Words", n, l)
	is, l := tag.Settled(h)
	put("Settled", is, l)
	list, l := tag.Clash(h)
	put("Clash", list, l)
	index, left, l := tag.Ask(h)
	put("Ask", index, left, l)
	text, l := tag.Print(h)
	put("Print", text, l)
	for _, n := range numbers() {
		reportNumber(h, n, put)
	}
	for _, s := range signs() {
		list, l := tag.Digits(h, s)
		put("Digits", s, list, l)
	}
	for _, s := range looks() {
		list, l := tag.Means(h, s)
		put("Means", s, list, l)
		for _, p := range prices() {
			o, l := tag.Hang(h, api.TagTag{Reads: s, Price: p})
			put("Hang", s, p, o, l)
		}
	}
	return out.String()
}

// reportNumber calls each function that takes a digit, a tag or a price.
func reportNumber(h api.TagHouse, n int, put func(name string, values ...any)) {
	letters, l := tag.Letters(h, n)
	put("Letters", n, letters, l)
	list, l := tag.Prices(h, n)
	put("Prices", n, list, l)
	sure, l := tag.Misread(h, n)
	put("Misread", n, sure, l)
	for _, long := range []int{math.MinInt, 0, 1, 2, 5, 6, math.MaxInt} {
		written, l := tag.Writes(h, n, long)
		put("Writes", n, long, written, l)
		is, l := tag.Plain(h, n, long)
		put("Plain", n, long, is, l)
	}
	for _, p := range prices() {
		o, l := tag.Learn(h, n, p)
		put("Learn", n, p, o, l)
	}
	for _, s := range signs() {
		o, l := tag.Know(h, n, s)
		put("Know", n, s, o, l)
	}
}

// layer is how this layer is held to what is promised of all of them.
func layer() promises.Layer[api.TagHouse] {
	return promises.Layer[api.TagHouse]{Print: tag.Print, Parse: tag.Parse, HasShape: true, Show: show}
}
