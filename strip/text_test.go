package strip_test

import (
	"strings"
	"testing"

	"nosale/api"
	"nosale/dice"
	"nosale/strip"
)

// P2.4: Print writes a book; the lines are those of the chapter.
func TestPrint(t *testing.T) {
	b := api.StripBook{
		Last: 99, First: 7, Begin: 0, Digits: 1, Clerks: 2,
		Articles: []api.StripArticle{{Dept: 9, Price: 999}, {Dept: 0, Price: 1}},
		Items:    []api.StripItem{{Number: "0?", Amount: "???", Total: "0", Dept: -1, Clerk: 1}, {Torn: true, Many: to(0, 1)}, {Torn: true}, {Number: "09", Amount: "001", Total: "?", Dept: 8, Clerk: -1}},
		Counts:   []api.StripCount{{Kind: api.StripAll, Many: to(0, 9999)}, {Kind: api.StripSold, A: 1, Many: to(3, 3)}, {Kind: api.StripMade, Many: to(0, 0)}, {Kind: api.StripTook, A: 9, Many: to(1, 2)}},
	}
	const want = "strip 99 7 0 1 2\narticle 9 999\narticle 0 1\nentry 0? ??? 0 -1 1\ntorn 0..1\ntorn 0\nentry 09 001 ? 8 -1\nall 0..9999\nsold 1 3\nmade 0 0\ntook 9 1..2\n"
	if text, l := strip.Print(b); text != want || l != api.Fine {
		t.Errorf("Print: %q, bell %d", text, l)
	}
	b.Clerks = 0
	if text, l := strip.Print(b); text != "" || l != api.Bound {
		t.Errorf("Print of a book with a bell: %q, bell %d", text, l)
	}
}

// P2.4, P0.3: what is printed is parsed as it was, with or without its last line feed.
func TestPrintIsParsed(t *testing.T) {
	d := dice.Dice(3)
	var books []api.StripBook
	for _, text := range texts() {
		layer().Parses(t, text, 0, api.Fine)
		books = append(books, book(t, text))
	}
	for i := range 500 {
		b, _ := anyBook(&d, i%2 == 0)
		books = append(books, b)
	}
	layer().PrintIsParsed(t, books...)
}

// parseCase is a text, and what Parse returns.
type parseCase struct {
	text string
	line int
	l    api.Bell
}

const textOne = "strip 99 1 0 2 1\narticle 0 5\n"

// placeCases are those of lines, their words and their places.
func placeCases() []parseCase {
	const one = textOne
	return []parseCase{
		{one, 0, api.Fine}, {strings.TrimSuffix(one, "\n"), 0, api.Fine}, {one + "torn 1\nentry ?? 005 ?? -1 0\ntorn 0..1\nall 2", 0, api.Fine},
		// the length of the text
		{strings.Repeat("s", api.MaxText+1), 0, api.Count}, {strings.Repeat("s", api.MaxText), 1, api.Shape}, {one + strings.Repeat("\n", api.MaxText), 0, api.Count}, {one + strings.Repeat("x", api.MaxText-len(one)), 3, api.Shape}, {one + strings.Repeat("torn 0\n", 7000), 0, api.Count}, {one + strings.Repeat("torn 0\n", 7200), 0, api.Count},
		// no line
		{"", 0, api.Shape}, {"\n", 1, api.Shape}, {"\n\n", 1, api.Shape},
		// the first line
		{"article 0 5\n", 1, api.Shape}, {"torn 0\n", 1, api.Shape}, {"entry 01 005 05 0 0\n", 1, api.Shape}, {"all 0\n", 1, api.Shape}, {"\n" + one, 1, api.Shape}, {"article 0 5\nstrip 99 1 0 2 1\n", 1, api.Shape},
		// the order of lines
		{one + "strip 99 1 0 2 1\n", 3, api.Shape}, {"strip 99 1 0 2 1\nstrip 99 1 0 2 1\narticle 0 5\n", 2, api.Shape}, {one + "torn 0\narticle 0 6\n", 4, api.Shape}, {one + "all 0\narticle 0 6\n", 4, api.Shape}, {one + "all 0\ntorn 0\n", 4, api.Shape}, {one + "all 0\nentry 01 005 05 0 0\n", 4, api.Shape}, {one + "torn 0\nall 0\nstrip 99 1 0 2 1\n", 5, api.Shape}, {one + "torn 0\ntorn 0\nentry ?? 005 05 0 0\ntorn 0\n", 0, api.Fine}, {one + "all 0\ntook 0 0\nsold 0 0\nmade 0 0\n", 0, api.Fine}, {one + "article 0 6\nall 0\n", 0, api.Fine},
		{"strip 99 1 0 2 1\ntorn 0\narticle 0 5\n", 3, api.Shape}, {"strip 99 1 0 2 1\ntorn 0\n", 0, api.Count}, {"strip 99 1 0 2 1\n", 0, api.Count}, {"strip 99 1 0 2 1", 0, api.Count},
		// the first one that is wrong decides
		{one + "torn x\narticle 0 5\n", 3, api.Shape}, {one + "all 0\ntorn 0\nx\n", 4, api.Shape},
		// words
		{"Strip 99 1 0 2 1\n", 1, api.Shape}, {"strips 99 1 0 2 1\n", 1, api.Shape}, {one + "Torn 0\n", 3, api.Shape}, {one + "count 0 0\n", 3, api.Shape}, {one + "0 0 0\n", 3, api.Shape}, {one + "#\n", 3, api.Shape},
		// blanks and line feeds
		{one + "\n", 3, api.Shape}, {one + "\nall 0\n", 3, api.Shape}, {" " + one, 1, api.Shape}, {one + " all 0\n", 3, api.Shape}, {one + "all 0 \n", 3, api.Shape}, {one + "all  0\n", 3, api.Shape}, {one + "all\t0\n", 3, api.Shape}, {one + "all 0\r\n", 3, api.Shape}, {one + "all 0\r", 3, api.Shape}, {one + "all 0\x00\n", 3, api.Shape}, {one + "entry  005 05 0 0\n", 3, api.Shape}, {one + "entry 01  05 0 0\n", 3, api.Shape}, {one + "entry 01 005  0 0\n", 3, api.Shape}, {one + "took  0\n", 3, api.Shape},
	}
}

// fieldCases are those of fields.
func fieldCases() []parseCase {
	const one = textOne
	return []parseCase{
		// how many there are
		{"strip\n", 1, api.Shape}, {"strip 99 1 0 2\n", 1, api.Shape}, {"strip 99 1 0 2 1 1\n", 1, api.Shape}, {one + "article\n", 3, api.Shape}, {one + "article 0\n", 3, api.Shape}, {one + "article 0 6 0\n", 3, api.Shape}, {one + "entry\n", 3, api.Shape}, {one + "entry 01 005 05 0\n", 3, api.Shape}, {one + "entry 01 005 05 0 0 0\n", 3, api.Shape}, {one + "torn\n", 3, api.Shape}, {one + "torn 0 0\n", 3, api.Shape}, {one + "took\n", 3, api.Shape}, {one + "took 0\n", 3, api.Shape}, {one + "took 0 0 0\n", 3, api.Shape}, {one + "made 0\n", 3, api.Shape}, {one + "sold 0\n", 3, api.Shape}, {one + "all\n", 3, api.Shape}, {one + "all 0 0\n", 3, api.Shape},
		// numbers
		{"strip x 1 0 2 1\n", 1, api.Shape}, {"strip 099 1 0 2 1\n", 1, api.Shape}, {"strip 99 +1 0 2 1\n", 1, api.Shape}, {"strip 99 1 -0 2 1\n", 1, api.Shape}, {"strip 99 1 0 02 1\n", 1, api.Shape}, {"strip 99 1 0 2 1.\n", 1, api.Shape}, {"strip 1000000000 1 0 2 1\n", 1, api.Shape}, {one + "article x 5\n", 3, api.Shape}, {one + "article 0 05\n", 3, api.Shape}, {one + "entry 01 005 05 ? 0\n", 3, api.Shape}, {one + "entry 01 005 05 0 00\n", 3, api.Shape}, {one + "entry 01 005 05 0..1 0\n", 3, api.Shape}, {one + "took 0..1 0\n", 3, api.Shape}, {one + "made none 0\n", 3, api.Shape}, {one + "sold 00 0\n", 3, api.Shape},
		// spans
		{one + "torn x\n", 3, api.Shape}, {one + "torn 0..0\n", 3, api.Shape}, {one + "torn 0..\n", 3, api.Shape}, {one + "torn ..1\n", 3, api.Shape}, {one + "torn 0.1\n", 3, api.Shape}, {one + "torn 0...1\n", 3, api.Shape}, {one + "torn 0..1..2\n", 3, api.Shape}, {one + "torn 00..1\n", 3, api.Shape}, {one + "torn 0..01\n", 3, api.Shape}, {one + "torn 0+1\n", 3, api.Shape}, {one + "took 0 05\n", 3, api.Shape}, {one + "all 3..3\n", 3, api.Shape}, {one + "all 0..1000000000\n", 3, api.Shape},
		// the bell of the book comes last
		{one + "torn 2..1\n", 0, api.Bound}, {one + "torn -1..1\n", 0, api.Bound}, {one + "torn 0..3\n", 0, api.Bound}, {one + "torn 3\n", 0, api.Bound}, {one + "torn 3\nall x\n", 4, api.Shape}, {"strip 999999999 1 0 2 1\narticle 0 5\n", 0, api.Bound}, {"strip -1 1 0 2 1\narticle 0 5\n", 0, api.Bound}, {one + "article 0 5\n", 0, api.Twice}, {one + "article 0 6\narticle 0 7\narticle 0 8\n", 0, api.Count}, {one + "all 0..9999\n", 0, api.Fine}, {one + "all 0..10000\n", 0, api.Bound}, {one + "all 5..0\n", 0, api.Bound}, {one + "took 1 0\n", 0, api.Missing}, {one + "took -1 0\n", 0, api.Missing}, {one + "made 1 0\n", 0, api.Missing}, {one + "sold 1 0\n", 0, api.Missing}, {one + strings.Repeat("all 0\n", 5), 0, api.Count}, {one + strings.Repeat("torn 0\n", 7), 0, api.Count}, {one + strings.Repeat("entry ?? ??? ?? -1 -1\n", 5), 0, api.Count},
		// the digits of an entry are any fields for Parse
		{one + "entry 1 005 05 0 0\n", 0, api.Shape}, {one + "entry 01 5 05 0 0\n", 0, api.Shape}, {one + "entry 01 005 005 0 0\n", 0, api.Shape}, {one + "entry xx 005 05 0 0\n", 0, api.Shape}, {one + "entry 01 none 05 0 0\n", 0, api.Shape}, {one + "entry 01 005 \xff\xff 0 0\n", 0, api.Shape}, {one + "entry 01 005 05 -2 0\n", 0, api.Bound}, {one + "entry 01 005 05 10 0\n", 0, api.Bound}, {one + "entry 01 005 05 0 1\n", 0, api.Bound}, {one + "entry 99 999 99 9 0\n", 0, api.Fine}, {one + "entry 1 005 05 0 0\nentry\n", 4, api.Shape},
	}
}

// P2.4: Parse returns the bell of a text, and the first line that is wrong.
func TestParse(t *testing.T) {
	for _, x := range append(placeCases(), fieldCases()...) {
		layer().Parses(t, x.text, x.line, x.l)
	}
}

// P2.4: what is parsed is what the text says.
func TestParsedBook(t *testing.T) {
	want := api.StripBook{
		Last: 99, First: 98, Begin: 950, Digits: 3, Clerks: 2,
		Articles: []api.StripArticle{{Dept: 1, Price: 25}, {Dept: 1, Price: 40}, {Dept: 2, Price: 25}},
		Items:    []api.StripItem{{Number: "98", Amount: "025", Total: "975", Dept: 1, Clerk: 0}, {Torn: true, Many: to(0, 2)}, {Number: "?1", Amount: "0?0", Total: "0??", Dept: -1, Clerk: 1}},
		Counts:   []api.StripCount{{Kind: api.StripTook, A: 1, Many: to(60, 110)}},
	}
	if b, line, l := strip.Parse(textR); show(b) != show(want) || line != 0 || l != api.Fine {
		t.Errorf("%+v, line %d, bell %d", b, line, l)
	}
	const kinds = textOne + "all 1\nsold 0 2..3\nmade 0 4\ntook 0 5\n"
	list := []api.StripCount{{Kind: api.StripAll, Many: to(1, 1)}, {Kind: api.StripSold, Many: to(2, 3)}, {Kind: api.StripMade, Many: to(4, 4)}, {Kind: api.StripTook, Many: to(5, 5)}}
	if b, _, l := strip.Parse(kinds); show(b.Counts) != show(list) || l != api.Fine {
		t.Errorf("%+v, bell %d", b.Counts, l)
	}
}

// P2.4, P0.1: any change of a byte is parsed as a book that is printed like that, or has a bell.
func TestParseAnything(t *testing.T) {
	layer().AnyByte(t, "\x00\n +-.?019aswé\xff", textAll)
}
