package tag_test

import (
	"strings"
	"testing"

	"nosale/api"
	"nosale/dice"
	"nosale/tag"
)

// P3.4: Print writes a house; the lines are those of the chapter.
func TestPrint(t *testing.T) {
	h := api.TagHouse{
		Letters: "MA?EPROF?T", Spare: "IK", Repeat: "X",
		Alike: []string{"FE", "OQ"},
		Tags:  []api.TagTag{{Reads: "?I", Price: to(0, 99999)}, {Reads: "MAKEP", Price: to(12345, 12345)}},
	}
	const want = "house MA?EPROF?T IK X\nalike FE\nalike OQ\ntag ?I 0..99999\ntag MAKEP 12345\n"
	if text, l := tag.Print(h); text != want || l != api.Fine {
		t.Errorf("Print: %q, bell %d", text, l)
	}
	if text, l := tag.Print(api.TagHouse{Letters: "MAKEPROFIT"}); text != textK || l != api.Fine {
		t.Errorf("Print: %q, bell %d", text, l)
	}
	h.Spare = "I"
	if text, l := tag.Print(h); text != "" || l != api.Count {
		t.Errorf("Print of a house with a bell: %q, bell %d", text, l)
	}
}

// P3.4, P0.3: what is printed is parsed as it was, with or without its last line feed.
func TestPrintIsParsed(t *testing.T) {
	d := dice.Dice(6)
	var houses []api.TagHouse
	for _, text := range texts() {
		layer().Parses(t, text, 0, api.Fine)
		houses = append(houses, parse(t, text))
	}
	for i := range 500 {
		h, _ := anyHouse(&d, i%2 == 0)
		houses = append(houses, h)
	}
	layer().PrintIsParsed(t, houses...)
}

// parseCase is a text, and what Parse returns.
type parseCase struct {
	text string
	line int
	l    api.Bell
}

// placeCases are those of lines, their words and their places.
func placeCases() []parseCase {
	const one = textK
	return []parseCase{
		{one, 0, api.Fine}, {strings.TrimSuffix(one, "\n"), 0, api.Fine}, {one + "alike EF\nalike FA\ntag M 1\ntag E 0..5", 0, api.Fine}, {one + "tag M 1\n", 0, api.Fine}, {one + "alike EF", 0, api.Fine},
		// the length of the text
		{strings.Repeat("h", api.MaxText+1), 0, api.Count}, {strings.Repeat("h", api.MaxText), 1, api.Shape}, {one + strings.Repeat("\n", api.MaxText), 0, api.Count}, {one + strings.Repeat("x", api.MaxText-len(one)), 2, api.Shape}, {one + strings.Repeat("tag M 1\n", 6200), 0, api.Count}, {one + strings.Repeat("tag M 1\n", 6300), 0, api.Count},
		// no line
		{"", 0, api.Shape}, {"\n", 1, api.Shape}, {"\n\n", 1, api.Shape},
		// the first line
		{"alike EF\n", 1, api.Shape}, {"tag M 1\n", 1, api.Shape}, {"\n" + one, 1, api.Shape}, {"alike EF\n" + one, 1, api.Shape}, {"tag M 1\n" + one, 1, api.Shape},
		// the order of lines
		{one + one, 2, api.Shape}, {one + "alike EF\n" + one, 3, api.Shape}, {one + "tag M 1\n" + one, 3, api.Shape}, {one + "tag M 1\nalike EF\n", 3, api.Shape}, {one + "alike EF\ntag M 1\nalike EA\n", 4, api.Shape},
		// the first one that is wrong decides
		{one + "tag M x\nalike EF\n", 2, api.Shape}, {one + "tag M 1\nalike EF\nx\n", 3, api.Shape}, {"house M - -\ntag M x\n", 2, api.Shape},
		// words
		{"House MAKEPROFIT - -\n", 1, api.Shape}, {"houses MAKEPROFIT - -\n", 1, api.Shape}, {one + "Alike EF\n", 2, api.Shape}, {one + "like EF\n", 2, api.Shape}, {one + "Tag M 1\n", 2, api.Shape}, {one + "tags M 1\n", 2, api.Shape}, {one + "M 1\n", 2, api.Shape}, {one + "#\n", 2, api.Shape},
		// blanks and line feeds
		{one + "\n", 2, api.Shape}, {one + "\ntag M 1\n", 2, api.Shape}, {" " + one, 1, api.Shape}, {"house  MAKEPROFIT - -\n", 1, api.Shape}, {"house MAKEPROFIT  -\n", 1, api.Shape}, {"house MAKEPROFIT - \n", 1, api.Shape}, {"house MAKEPROFIT - - \n", 1, api.Shape}, {one + " tag M 1\n", 2, api.Shape}, {one + "tag M 1 \n", 2, api.Shape}, {one + "tag  M 1\n", 2, api.Shape}, {one + "tag  1\n", 2, api.Shape}, {one + "tag M  1\n", 2, api.Shape}, {one + "tag M\t1\n", 2, api.Shape}, {one + "tag M 1\r\n", 2, api.Shape}, {one + "tag M 1\x00\n", 2, api.Shape}, {one + "alike  EF\n", 2, api.Shape}, {one + "alike EF \n", 2, api.Shape}, {one + "alike \n", 2, api.Shape},
	}
}

// fieldCases are those of fields.
func fieldCases() []parseCase {
	const one = textK
	return []parseCase{
		// how many there are
		{"house\n", 1, api.Shape}, {"house MAKEPROFIT\n", 1, api.Shape}, {"house MAKEPROFIT -\n", 1, api.Shape}, {"house MAKEPROFIT - - -\n", 1, api.Shape}, {one + "alike\n", 2, api.Shape}, {one + "alike E F\n", 2, api.Shape}, {one + "alike EF 1\n", 2, api.Shape}, {one + "tag\n", 2, api.Shape}, {one + "tag M\n", 2, api.Shape}, {one + "tag 1\n", 2, api.Shape}, {one + "tag M 1 2\n", 2, api.Shape}, {one + "tag M 1 ..2\n", 2, api.Shape},
		// spans
		{one + "tag M x\n", 2, api.Shape}, {one + "tag M none\n", 2, api.Shape}, {one + "tag M -\n", 2, api.Shape}, {one + "tag M 01\n", 2, api.Shape}, {one + "tag M +1\n", 2, api.Shape}, {one + "tag M -0\n", 2, api.Shape}, {one + "tag M 1..1\n", 2, api.Shape}, {one + "tag M 1..\n", 2, api.Shape}, {one + "tag M ..1\n", 2, api.Shape}, {one + "tag M 1.2\n", 2, api.Shape}, {one + "tag M 1...2\n", 2, api.Shape}, {one + "tag M 1..2..3\n", 2, api.Shape}, {one + "tag M 00..1\n", 2, api.Shape}, {one + "tag M 0..01\n", 2, api.Shape}, {one + "tag M 1+2\n", 2, api.Shape}, {one + "tag M 1000000000\n", 2, api.Shape}, {one + "tag M 0..1000000000\n", 2, api.Shape},
		// the bell of the house comes last
		{one + "tag M 2..1\n", 0, api.Bound}, {one + "tag M -1..1\n", 0, api.Bound}, {one + "tag M 0..100000\n", 0, api.Bound}, {one + "tag M 999999999\n", 0, api.Bound}, {one + "tag M 0..99999\n", 0, api.Fine}, {one + "tag M 2..1\ntag M x\n", 3, api.Shape}, {one + strings.Repeat("tag M 1\n", 6), 0, api.Count}, {one + strings.Repeat("tag M 1\n", 5), 0, api.Fine}, {one + "alike AB\nalike CD\nalike EF\nalike GH\nalike IJ\n", 0, api.Count}, {one + "alike AB\nalike BA\n", 0, api.Twice}, {one + "alike AA\n", 0, api.Twice},
		// letters are any fields for Parse
		{"house M - -\n", 0, api.Shape}, {"house - - -\n", 0, api.Shape}, {"house MAKEPROFI? - -\n", 0, api.Count}, {"house MAKEPROFI? T -\n", 0, api.Fine}, {"house makeprofit - -\n", 0, api.Shape}, {"house MAKEPROFIT A -\n", 0, api.Count}, {"house MAKEPROFIT - A\n", 0, api.Twice}, {"house MAKEPROFIT - S\n", 0, api.Fine}, {"house MAKEPROFI? t -\n", 0, api.Shape}, {"house MAKEPROFIT - XY\n", 0, api.Shape}, {"house MAKEPROFIT - x\n", 0, api.Shape}, {"house MAKEPROFIT -- -\n", 0, api.Shape}, {"house MAKEPROFIT - --\n", 0, api.Shape}, {"house MAKEPROFI? T- -\n", 0, api.Shape}, {"house MAKEPROFI\xff - -\n", 0, api.Shape},
		{one + "alike E\n", 0, api.Shape}, {one + "alike -\n", 0, api.Shape}, {one + "alike ef\n", 0, api.Shape}, {one + "alike EFA\n", 0, api.Shape}, {one + "tag m 1\n", 0, api.Shape}, {one + "tag - 1\n", 0, api.Shape}, {one + "tag 1 1\n", 0, api.Shape}, {one + "tag MAKEPR 1\n", 0, api.Count}, {one + "tag ??? 1\n", 0, api.Count}, {one + "tag \xff 1\n", 0, api.Shape}, {one + "tag MM 2\n", 0, api.Fine},
	}
}

// P3.4: Parse returns the bell of a text, and the first line that is wrong.
func TestParse(t *testing.T) {
	for _, x := range append(placeCases(), fieldCases()...) {
		layer().Parses(t, x.text, x.line, x.l)
	}
}

// P3.4: what is parsed is what the text says.
func TestParsedHouse(t *testing.T) {
	want := api.TagHouse{Letters: "MAKEPROF??", Spare: "IT", Repeat: "X", Alike: []string{"EF"}, Tags: []api.TagTag{{Reads: "KET", Price: to(0, 99999)}, {Reads: "PXI", Price: to(550, 559)}, {Reads: "?T", Price: to(90, 90)}}}
	if h, line, l := tag.Parse(textG); show(h) != show(want) || line != 0 || l != api.Fine {
		t.Errorf("%+v, line %d, bell %d", h, line, l)
	}
	if h, line, l := tag.Parse(textK); show(h) != show(api.TagHouse{Letters: "MAKEPROFIT"}) || line != 0 || l != api.Fine {
		t.Errorf("%+v, line %d, bell %d", h, line, l)
	}
}

// P3.4, P0.1: any change of a byte is parsed as a house that is printed like that, or has a bell.
func TestParseAnything(t *testing.T) {
	layer().AnyByte(t, "\x00\n +-.?019AEZagé\xff", textAll)
}
