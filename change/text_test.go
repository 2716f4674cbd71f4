package change_test

import (
	"strings"
	"testing"

	"nosale/api"
	"nosale/change"
	"nosale/dice"
)

// P4.5: Print writes a book; the lines are those of the chapter.
func TestPrint(t *testing.T) {
	b := api.ChangeBook{
		Kinds:  []int{500, 20, 1},
		Drawer: []api.Span{to(0, 1), to(9, 9), to(0, 0)},
		Sales: []api.ChangeSale{
			{Price: 999, Paid: []int{2, 0, 3}, Seen: api.Yes}, {Price: 0, Paid: []int{0, 0, 0}, Seen: api.No}, {Price: 7, Paid: []int{0, 1, 0}},
		},
		Firsts: []api.ChangeFirst{first(2, 0), first(1, 1)},
		Counts: []api.ChangeCount{count(2, 0, 30), count(0, 4, 4)},
	}
	const want = "change 500+20+1\ndrawer 0..1\ndrawer 9\ndrawer 0\nsale 999 2+0+3 went\nsale 0 0+0+0 refused\nsale 7 0+1+0 open\nfirst 2 0\nfirst 1 1\ncount 2 0..30\ncount 0 4\n"
	if text, l := change.Print(b); text != want || l != api.Fine {
		t.Errorf("Print: %q, bell %d", text, l)
	}
	if o, line, l := change.Parse(want); show(o) != show(b) || line != 0 || l != api.Fine {
		t.Errorf("Parse: %+v, line %d, bell %d", o, line, l)
	}
	b.Sales[2].Seen = 3
	if text, l := change.Print(b); text != "" || l != api.Bound {
		t.Errorf("Print of a book with a bell: %q, bell %d", text, l)
	}
	if text, l := change.Print(api.ChangeBook{}); text != "" || l != api.Count {
		t.Errorf("Print of nothing: %q, bell %d", text, l)
	}
}

// P4.5, P0.3: what is printed is parsed as it was, with or without its last line feed.
func TestPrintIsParsed(t *testing.T) {
	d := dice.Dice(5)
	var books []api.ChangeBook
	for _, text := range texts() {
		layer().Parses(t, text, 0, api.Fine)
		books = append(books, parse(t, text))
	}
	for i := range 500 {
		b, _ := anyBook(&d, i%2 == 0)
		books = append(books, b)
	}
	layer().PrintIsParsed(t, books...)
}

// parseCase is a text, and what Parse returns.
type parseCase struct {
	text string
	line int
	l    api.Bell
}

// one is a book with as little as there can be.
const one = "change 5\ndrawer 1\n"

// placeCases are those of lines, their words and their places.
func placeCases() []parseCase {
	const sale, first, count = "sale 5 1 open\n", "first 0 0\n", "count 0 1\n"
	return []parseCase{
		{one, 0, api.Fine}, {strings.TrimSuffix(one, "\n"), 0, api.Fine}, {one + sale + first + count, 0, api.Fine}, {one + sale + sale + first + first + count + count, 0, api.Fine}, {one + count, 0, api.Fine}, {one + sale + count, 0, api.Fine}, {one + sale + first, 0, api.Fine},
		// the length of the text
		{strings.Repeat("c", api.MaxText+1), 0, api.Count}, {strings.Repeat("c", api.MaxText), 1, api.Shape}, {one + strings.Repeat("\n", api.MaxText), 0, api.Count}, {one + strings.Repeat("x", api.MaxText-len(one)), 3, api.Shape}, {one + strings.Repeat(count, 4990), 0, api.Count}, {one + strings.Repeat(count, 5010), 0, api.Count},
		// no line
		{"", 0, api.Shape}, {"\n", 1, api.Shape}, {"\n\n", 1, api.Shape},
		// the first line
		{"drawer 1\n", 1, api.Shape}, {sale, 1, api.Shape}, {first, 1, api.Shape}, {count, 1, api.Shape}, {"\n" + one, 1, api.Shape}, {"drawer 1\nchange 5\n", 1, api.Shape}, {"change 5\n", 0, api.Count},
		// a second change
		{one + "change 5\n", 3, api.Shape}, {"change 5\nchange 5\ndrawer 1\n", 2, api.Shape}, {one + count + "change 5\n", 4, api.Shape},
		// the order of lines
		{one + sale + "drawer 1\n", 4, api.Shape}, {one + first + "drawer 1\n", 4, api.Shape}, {one + count + "drawer 1\n", 4, api.Shape}, {one + first + sale, 4, api.Shape}, {one + count + sale, 4, api.Shape}, {one + sale + count + first, 5, api.Shape}, {"change 5\n" + sale + "drawer 1\n", 3, api.Shape},
		// the first one that is wrong decides
		{one + "sale 5 1 yes\ndrawer 1\n", 3, api.Shape}, {one + sale + "drawer 1\nx\n", 4, api.Shape}, {"change none\ndrawer x\n", 2, api.Shape}, {"x\nx\n", 1, api.Shape},
		// words
		{"Change 5\ndrawer 1\n", 1, api.Shape}, {"changes 5\ndrawer 1\n", 1, api.Shape}, {"5\n", 1, api.Shape}, {one + "Sale 5 1 open\n", 3, api.Shape}, {one + "sales 5 1 open\n", 3, api.Shape}, {one + "coin 0 1\n", 3, api.Shape}, {one + "counts 0 1\n", 3, api.Shape}, {one + "drawers 1\n", 3, api.Shape}, {one + "firs 0 0\n", 3, api.Shape}, {one + "#\n", 3, api.Shape},
		// blanks and line feeds
		{one + "\n", 3, api.Shape}, {one + "\n" + count, 3, api.Shape}, {" " + one, 1, api.Shape}, {"change  5\ndrawer 1\n", 1, api.Shape}, {"change 5 \ndrawer 1\n", 1, api.Shape}, {one + " " + count, 3, api.Shape}, {one + "count 0 1 \n", 3, api.Shape}, {one + "count  0 1\n", 3, api.Shape}, {one + "count 0  1\n", 3, api.Shape}, {one + "count 0\t1\n", 3, api.Shape}, {one + "count 0 1\r\n", 3, api.Shape}, {one + "count 0 1\x00\n", 3, api.Shape}, {one + "sale 5 1 open \n", 3, api.Shape}, {one + "sale 5 1 \n", 3, api.Shape},
	}
}

// fieldCases are those of fields.
func fieldCases() []parseCase {
	return []parseCase{
		// how many there are
		{"change\n", 1, api.Shape}, {"change 5 4\n", 1, api.Shape}, {"change 5\ndrawer\n", 2, api.Shape}, {"change 5\ndrawer 1 1\n", 2, api.Shape}, {one + "sale\n", 3, api.Shape}, {one + "sale 5\n", 3, api.Shape}, {one + "sale 5 1\n", 3, api.Shape}, {one + "sale 5 1 open open\n", 3, api.Shape}, {one + "first\n", 3, api.Shape}, {one + "first 0\n", 3, api.Shape}, {one + "first 0 0 0\n", 3, api.Shape}, {one + "count\n", 3, api.Shape}, {one + "count 0\n", 3, api.Shape}, {one + "count 0 1 2\n", 3, api.Shape},
		// lists
		{"change 5+\n", 1, api.Shape}, {"change +5\n", 1, api.Shape}, {"change 5++4\n", 1, api.Shape}, {"change 05\n", 1, api.Shape}, {"change x\n", 1, api.Shape}, {"change 5,4\n", 1, api.Shape}, {"change 5..7\n", 1, api.Shape}, {"change None\n", 1, api.Shape}, {"change 5+none\n", 1, api.Shape}, {one + "sale 5 x open\n", 3, api.Shape}, {one + "sale 5 1+ open\n", 3, api.Shape}, {one + "sale 5 01 open\n", 3, api.Shape}, {one + "sale 5 1000000000 open\n", 3, api.Shape},
		// numbers
		{one + "sale x 1 open\n", 3, api.Shape}, {one + "sale 05 1 open\n", 3, api.Shape}, {one + "sale +5 1 open\n", 3, api.Shape}, {one + "sale -0 1 open\n", 3, api.Shape}, {one + "sale 1+1 1 open\n", 3, api.Shape}, {one + "sale 1000000000 1 open\n", 3, api.Shape}, {one + "first 0 x\n", 3, api.Shape}, {one + "first x 0\n", 3, api.Shape}, {one + "first 00 0\n", 3, api.Shape}, {one + "count x 1\n", 3, api.Shape}, {one + "count 0..1 1\n", 3, api.Shape}, {one + "count none 1\n", 3, api.Shape},
		// spans
		{one + "drawer 1..1\n", 3, api.Shape}, {one + "drawer 1..\n", 3, api.Shape}, {one + "drawer ..1\n", 3, api.Shape}, {one + "drawer 0...1\n", 3, api.Shape}, {one + "drawer 0..1..2\n", 3, api.Shape}, {one + "drawer 0+1\n", 3, api.Shape}, {one + "drawer none\n", 3, api.Shape}, {one + "count 0 01\n", 3, api.Shape}, {one + "count 0 2..2\n", 3, api.Shape}, {one + "count 0 0..01\n", 3, api.Shape}, {one + "count 0 0..1000000000\n", 3, api.Shape},
		// what was seen
		{one + "sale 5 1 yes\n", 3, api.Shape}, {one + "sale 5 1 Open\n", 3, api.Shape}, {one + "sale 5 1 goes\n", 3, api.Shape}, {one + "sale 5 1 0\n", 3, api.Shape}, {one + "sale 5 1 went\n", 0, api.Fine}, {one + "sale 5 1 refused\n", 0, api.Fine},
		// the bell of the book comes last
		{"change none\n", 0, api.Count}, {"change -5\ndrawer 1\n", 0, api.Bound}, {"change 501\ndrawer 1\n", 0, api.Bound}, {"change 4+5\n", 0, api.Order}, {one + "drawer 1\n", 0, api.Count}, {"change 5\ndrawer 1..0\n", 0, api.Bound}, {"change 5\ndrawer 0..2\n", 0, api.Bound}, {"change 5\ndrawer -1..0\n", 0, api.Bound}, {one + "sale 6 1 open\n", 0, api.Short}, {one + "sale 5 1+1 open\n", 0, api.Count}, {one + "sale 0 none open\n", 0, api.Count}, {one + "sale 5 4 open\n", 0, api.Bound}, {one + "sale -1 1 open\n", 0, api.Bound}, {one + "sale 999999999 1 open\n", 0, api.Bound}, {one + "first 0 0\n", 0, api.Missing}, {one + "count 1 1\n", 0, api.Missing}, {one + "count 0 2..1\n", 0, api.Bound}, {one + "count 0 31\n", 0, api.Bound}, {one + "count 0 2..1\ncount 0 x\n", 4, api.Shape},
		{one + strings.Repeat("sale 5 1 open\n", 4), 0, api.Fine}, {one + strings.Repeat("sale 5 1 open\n", 5), 0, api.Count}, {one + "sale 5 1 open\n" + strings.Repeat("first 0 0\n", 5), 0, api.Count}, {one + strings.Repeat("count 0 1\n", 4), 0, api.Fine}, {one + strings.Repeat("count 0 1\n", 5), 0, api.Count},
	}
}

// P4.5: Parse returns the bell of a text, and the first line that is wrong.
func TestParse(t *testing.T) {
	for _, x := range append(placeCases(), fieldCases()...) {
		layer().Parses(t, x.text, x.line, x.l)
	}
}

// P4.5, P0.1: any change of a byte is parsed as a book that is printed like that, or has a bell.
func TestParseAnything(t *testing.T) {
	layer().AnyByte(t, "\x00\n +-.?0139adeot\xff", textAll)
}
