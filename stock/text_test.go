package stock_test

import (
	"strings"
	"testing"

	"nosale/api"
	"nosale/dice"
	"nosale/stock"
)

// P8.4: Print writes a book; the lines are those of the chapter.
func TestPrint(t *testing.T) {
	b := api.StockBook{
		Days: 99, Most: 2,
		Goods:  []api.StockGood{{Name: "a1", Cost: 999, Pack: 20, First: to(97, 99)}, {Name: "tea", Pack: 1}},
		Moves:  []api.StockMove{move(api.StockCame, 0, 1, 1, 3), move(api.StockSold, 1, 1, 0, 0), move(api.StockLost, 0, 9, 5, 6), move(api.StockGiven, 1, 98, 99, 99), move(api.StockBack, 0, 99, 0, 2)},
		Counts: []api.StockCount{count(1, 0, 0, 999), count(0, 99, 7, 7)},
	}
	const want = "stock 99 2\ngood a1 999 20 97..99\ngood tea 0 1 0\nmove came 0 1 1..3\nmove sold 1 1 0\nmove lost 0 9 5..6\nmove given 1 98 99\nmove back 0 99 0..2\ncount 1 0 0..999\ncount 0 99 7\n"
	if text, l := stock.Print(b); text != want || l != api.Fine {
		t.Errorf("Print: %q, bell %d", text, l)
	}
	if o, line, l := stock.Parse(want); show(o) != show(b) || line != 0 || l != api.Fine {
		t.Errorf("Parse: %+v, line %d, bell %d", o, line, l)
	}
	b.Counts[1].Day = 100
	if text, l := stock.Print(b); text != "" || l != api.Bound {
		t.Errorf("Print of a book with a bell: %q, bell %d", text, l)
	}
	if text, l := stock.Print(api.StockBook{Days: 1}); text != "" || l != api.Count {
		t.Errorf("Print without goods: %q, bell %d", text, l)
	}
}

// P8.4, P0.3: what is printed is parsed as it was, with or without its last line feed.
func TestPrintIsParsed(t *testing.T) {
	d := dice.Dice(8)
	var books []api.StockBook
	for _, text := range texts() {
		layer().Parses(t, text, 0, api.Fine)
		books = append(books, parse(t, text))
	}
	for i := range 1000 {
		b, _ := anyBook(&d, api.MaxStockMoves, i%2 == 0)
		books = append(books, b)
	}
	layer().PrintIsParsed(t, books...)
}

// Lines of which texts are made.
const (
	head  = "stock 9 0\n"
	good  = "good tea 1 1 0\n"
	came  = "move came 0 1 1\n"
	there = "count 0 0 0\n"
	one   = head + good
)

// P8.4: Parse returns the first line that is not in its place; the bell of a book comes last.
func TestParsePlaces(t *testing.T) {
	for text, line := range map[string]int{
		"": 0, "\n": 1, "\n\n": 1,
		// the first line
		good: 1, came: 1, there: 1, "\n" + one: 1, good + head: 1,
		// a second stock
		head + head + good: 2, one + head: 3, one + came + there + head: 5,
		// the order of lines
		head + came + good: 3, head + there + good: 3, one + came + good: 4, one + there + came: 4, one + there + good: 4, one + came + there + came: 5,
		// the first one that is wrong decides
		one + "move came 0 1 x\n" + good: 3, one + came + good + "x\n": 4, "stock 0 9\ngood x\n": 2, "x\nx\n": 1, one + there + there + "x": 5, one + "\n": 3, one + came + "\n" + there: 4,
		// whole texts
		strings.Repeat("s", api.MaxText): 1, one + strings.Repeat("x", api.MaxText-len(one)): 3, one + strings.Repeat(came, 3000) + "x": 3003,
	} {
		layer().Parses(t, text, line, api.Shape)
	}
	for text, l := range map[string]api.Bell{
		one: api.Fine, strings.TrimSuffix(one, "\n"): api.Fine, one + came + there: api.Fine, one + there: api.Fine, one + came: api.Fine, one + "good oil 1 1 0\n" + came + came + there + there: api.Fine,
		// there is no good
		head: api.Count, head + came: api.Count, head + there: api.Count,
		// the length of the text
		strings.Repeat("s", api.MaxText+1): api.Count, one + strings.Repeat("\n", api.MaxText): api.Count, one + strings.Repeat(came, 3000): api.Count, one + strings.Repeat(came, 3200): api.Count,
	} {
		layer().Parses(t, text, 0, l)
	}
}

// P8.4: Parse returns the first line that does not have its form.
func TestParseForms(t *testing.T) {
	// words, blanks and line feeds
	layer().WrongLines(t, 1, "", "Stock 9 0", "stocks 9 0", "9 0", " stock 9 0", "stock  9 0", "stock 9 0 ", "stock\t9 0", "stock 9 0\r")
	layer().WrongLines(t, 3, one, "Good oil 1 1 0", "goods oil 1 1 0", "oil 1 1 0", "Move came 0 1 1", "moves came 0 1 1", "came 0 1 1", "counts 0 0 0", "Count 0 0 0", "#", "", " count 0 0 0", "count 0 0 0 ", "count  0 0 0", "count 0  0 0", "count 0\t0 0", "count 0 0 0\r", "count 0 0 0\x00", "move  came 0 1 1", "move came 0 1 1 ")
	// how many fields there are, numbers and spans
	layer().WrongLines(t, 1, "", "stock", "stock 9", "stock 9 0 0", "stock x 0", "stock 9 x", "stock 09 0", "stock 9 00", "stock 9 -0", "stock +9 0", "stock 0..9 0", "stock 9 0..1", "stock 9 none", "stock 9+1 0", "stock 1000000000 0")
	layer().WrongLines(t, 2, head, "good", "good tea", "good tea 1 1", "good tea 1 1 0 0", "good 1 1 0", "good  1 1 0", "good tea x 1 0", "good tea 1 x 0", "good tea 01 1 0", "good tea 1 01 0", "good tea 0..1 1 0", "good tea 1 0..1 0", "good tea 1 1 x", "good tea 1 1 00", "good tea 1 1 0..0", "good tea 1 1 0..", "good tea 1 1 ..0", "good tea 1 1 0...1", "good tea 1 1 0..1..2", "good tea 1 1 0+1", "good tea 1 1 none", "good tea 1 1 -0", "good tea -0 1 0", "good tea 1 1 0..1000000000", "good green tea 1 1 0")
	layer().WrongLines(t, 3, one, "move", "move came", "move came 0 1", "move came 0 1 1 1", "move come 0 1 1", "move Came 0 1 1", "move 0 0 1 1", "move stock 0 1 1", "move none 0 1 1", "move came x 1 1", "move came 0 x 1", "move came 00 1 1", "move came 0 01 1", "move came 0 1 01", "move came 0 1 1..1", "move came 0 0..1 1", "move came 0..1 1 1", "move came 0 1 1+2", "move came 0 1 none", "move came 0 1 -0", "move came 0 1 1.2", "move came 0 1 1000000000")
	layer().WrongLines(t, 3, one, "count", "count 0", "count 0 0", "count 0 0 0 0", "count x 0 0", "count 0 x 0", "count 0 0 x", "count tea 0 0", "count 00 0 0", "count 0 00 0", "count 0 0 00", "count 0 0 0..0", "count 0 0..1 0", "count 0 0 0+1", "count 0 0 none", "count -0 0 0", "count 0 0 0..1000000000")
}

// P8.4: what has its form is read, and has the bell of its book.
func TestParseBells(t *testing.T) {
	for text, l := range map[string]api.Bell{
		"stock 0 0\n" + good: api.Bound, "stock 100 0\n" + good: api.Bound, "stock 9 3\n" + good: api.Bound, "stock 9 -1\n" + good: api.Bound, "stock 999999999 0\n" + good: api.Bound, "stock -999999999 0\n" + good: api.Bound, "stock 99 2\n" + good: api.Fine,
		// a name is any field
		one + "good TEA 1 1 0\n": api.Label, one + "good 0..1 1 1 0\n": api.Label, one + "good none 1 1 0\n": api.Fine, one + "good good 1 1 0\n": api.Fine, one + "good \xff\x00 1 1 0\n": api.Label, one + "good abcdefghijk 1 1 0\n": api.Label, one + good: api.Twice, head + strings.Repeat("good - 1 1 0\n", 4): api.Count,
		one + "good oil 1000 1 0\n": api.Bound, one + "good oil -1 1 0\n": api.Bound, one + "good oil 1 0 0\n": api.Bound, one + "good oil 1 21 0\n": api.Bound, one + "good oil 1 1 1..0\n": api.Bound, one + "good oil 1 1 0..3\n": api.Bound, one + "good oil 1 1 -1\n": api.Bound, one + "good oil 999 20 97..99\n": api.Fine,
		one + "move came 1 1 1\n": api.Missing, one + "move came -1 1 1\n": api.Missing, one + "move back 0 0 1\n": api.Bound, one + "move back 0 10 1\n": api.Bound, one + "move back 0 9 97..99\n": api.Fine, one + "move back 0 9 1..0\n": api.Bound, one + "move back 0 9 0..3\n": api.Bound, one + "move came 0 2 1\n" + came: api.Order, one + strings.Repeat(came, 6): api.Fine, one + strings.Repeat(came, 7): api.Count,
		one + "count 1 0 0\n": api.Missing, one + "count 0 10 0\n": api.Bound, one + "count 0 -1 0\n": api.Bound, one + "count 0 0 1..0\n": api.Bound, one + "count 0 0 1000\n": api.Bound, one + "count 0 9 0..999\n": api.Fine, one + strings.Repeat(there, 4): api.Fine, one + strings.Repeat(there, 5): api.Count,
		// a book without a history is a book
		one + "count 0 0 1\n": api.Fine, one + "move sold 0 1 1\n": api.Fine,
	} {
		layer().Parses(t, text, 0, l)
	}
}

// P8.4, P0.1: any change of a byte is parsed as a book that is printed like that, or has a bell; only a line that has no form has a number.
func TestParseAnything(t *testing.T) {
	layer().AnyByte(t, "\x00\n +-.0139abcdegiklmnostuv\xff", texts()...)
}
