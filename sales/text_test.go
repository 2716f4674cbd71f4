package sales_test

import (
	"strings"
	"testing"

	"nosale/api"
	"nosale/dice"
	"nosale/sales"
)

// P6.4: Print writes a book; the lines are those of the chapter.
func TestPrint(t *testing.T) {
	b := api.SalesBook{
		Most: 2,
		Slips: []api.SalesSlip{
			slip(api.SalesSold, 4, 3, 0, 0), slip(api.SalesCredit, 1, 0, 997, 999), slip(api.SalesGiven, 0, 2, 1, 2), {Kind: api.SalesBack, Dept: 2, Clerk: 1, For: 1, Amount: to(3, 3)}, slip(api.SalesPaid, 0, 1, 999, 999), {Kind: api.SalesFix, Clerk: 2, For: 3, Amount: to(4, 5), Signed: api.No},
		},
		Sums: []api.SalesSum{
			{Kind: api.SalesCash, Many: to(-9999, 9999), Firm: true}, sum(api.SalesDept, 4, 0, 0), sum(api.SalesClerk, 3, -5, -5), {Kind: api.SalesDebt, Many: to(-7, -6), Firm: true}, sum(api.SalesGifts, 0, 1, 2),
		},
	}
	const want = "sales 2\nslip sold 4 3 -1 0 open\nslip credit 1 0 -1 997..999 open\nslip given 0 2 -1 1..2 open\nslip back 2 1 1 3 open\nslip paid 0 1 -1 999 open\nslip fix 0 2 3 4..5 no\nsum cash 0 -9999..9999 firm\nsum dept 4 0 loose\nsum clerk 3 -5 loose\nsum debt 0 -7..-6 firm\nsum gifts 0 1..2 loose\n"
	for signed, word := range map[api.Sure]string{api.Open: "open", api.Yes: "yes", api.No: "no"} {
		b.Slips[5].Signed = signed
		want := strings.Replace(want, "4..5 no", "4..5 "+word, 1)
		if text, l := sales.Print(b); text != want || l != api.Fine {
			t.Errorf("Print: %q, bell %d", text, l)
		}
		if o, line, l := sales.Parse(want); show(o) != show(b) || line != 0 || l != api.Fine {
			t.Errorf("Parse: %+v, line %d, bell %d", o, line, l)
		}
	}
	b.Most = 3
	if text, l := sales.Print(b); text != "" || l != api.Bound {
		t.Errorf("Print of a book with a bell: %q, bell %d", text, l)
	}
	if text, l := sales.Print(api.SalesBook{}); text != textBare || l != api.Fine {
		t.Errorf("Print of nothing: %q, bell %d", text, l)
	}
}

// P6.4, P0.3: what is printed is parsed as it was, with or without its last line feed.
func TestPrintIsParsed(t *testing.T) {
	d := dice.Dice(5)
	var books []api.SalesBook
	for _, text := range texts() {
		layer().Parses(t, text, 0, api.Fine)
		books = append(books, parse(t, text))
	}
	for i := range 500 {
		b, _ := anyBook(&d, i%2 == 0)
		books = append(books, b)
	}
	layer().PrintIsParsed(t, books...)
}

// parseCase is a text, and what Parse returns.
type parseCase struct {
	text string
	line int
	l    api.Bell
}

// shapes returns cases of texts that begin with one, each of which has a line that is wrong.
func shapes(line int, before string, wrong ...string) []parseCase {
	var all []parseCase
	for _, w := range wrong {
		all = append(all, parseCase{before + w + "\n", line, api.Shape})
	}
	return all
}

// textOne is a text that others begin with.
const textOne = "sales 0\nslip sold 0 0 -1 1 open\n"

// placeCases are those of lines, their words and their places.
func placeCases() []parseCase {
	const one, slip, sum = textOne, "slip given 0 0 -1 1 open\n", "sum cash 0 1 loose\n"
	cases := []parseCase{
		{one, 0, api.Fine}, {strings.TrimSuffix(one, "\n"), 0, api.Fine}, {one + slip + sum, 0, api.Fine}, {one + sum + sum, 0, api.Fine}, {"sales 0\n" + sum, 0, api.Fine}, {"sales 0", 0, api.Fine}, {"sales 2\n", 0, api.Fine},
		// the length of the text
		{strings.Repeat("s", api.MaxText+1), 0, api.Count}, {strings.Repeat("s", api.MaxText), 1, api.Shape}, {one + strings.Repeat("\n", api.MaxText), 0, api.Count}, {one + strings.Repeat("x", api.MaxText-len(one)), 3, api.Shape}, {one + strings.Repeat(sum, 2600), 0, api.Count}, {one + strings.Repeat(sum, 2700), 0, api.Count}, {one + strings.Repeat(sum, 2600) + "x", 2603, api.Shape},
		// no line
		{"", 0, api.Shape}, {"\n", 1, api.Shape}, {"\n\n", 1, api.Shape},
		// the first line
		{slip, 1, api.Shape}, {sum, 1, api.Shape}, {"\n" + one, 1, api.Shape}, {slip + "sales 0\n", 1, api.Shape},
		// a second sales
		{one + "sales 0\n", 3, api.Shape}, {"sales 0\nsales 0\n" + slip, 2, api.Shape}, {one + sum + "sales 0\n", 4, api.Shape},
		// the order of lines
		{one + sum + slip, 4, api.Shape}, {one + slip + sum + slip, 5, api.Shape}, {"sales 0\n" + sum + slip, 3, api.Shape},
		// the first one that is wrong decides
		{one + "sum cash 0 x loose\n" + slip, 3, api.Shape}, {one + sum + slip + "x\n", 4, api.Shape}, {"sales 9\nslip x\n", 2, api.Shape}, {"x\nx\n", 1, api.Shape},
	}
	// words, blanks and line feeds
	cases = append(cases, shapes(1, "", "Sales 0", "sale 0", "0", " sales 0", "sales  0", "sales 0 ", "sales\t0", "sales 0\r")...)
	return append(cases, shapes(3, one, "Slip sold 0 0 -1 1 open", "slips sold 0 0 -1 1 open", "sold 0 0 -1 1 open", "Sum cash 0 1 loose", "sums cash 0 1 loose", "cash 0 1 loose", "#", "", "\n"+sum, " sum cash 0 1 loose", "sum cash 0 1 loose ", "sum  cash 0 1 loose", "sum cash 0  1 loose", "sum cash 0\t1 loose", "sum cash 0 1 loose\r", "sum cash 0 1 loose\x00", "slip  sold 0 0 -1 1 open", "slip sold 0 0 -1 1 open ", "slip sold 0 0  -1 1 open")...)
}

// fieldCases are those of fields.
func fieldCases() []parseCase {
	const one = textOne
	// how many there are, words, numbers and spans
	cases := shapes(1, "", "sales", "sales 0 0", "sales x", "sales 00", "sales +1", "sales -0", "sales 0..1", "sales none", "sales 1000000000")
	cases = append(cases, shapes(3, one, "slip", "slip sold", "slip sold 0", "slip sold 0 0", "slip sold 0 0 -1", "slip sold 0 0 -1 1", "slip sold 0 0 -1 1 open open", "slip Sold 0 0 -1 1 open", "slip sale 0 0 -1 1 open", "slip 0 0 0 -1 1 open", "slip cash 0 0 -1 1 open", "slip slip 0 0 -1 1 open", "slip sold x 0 -1 1 open", "slip sold 00 0 -1 1 open", "slip sold 0..1 0 -1 1 open", "slip sold 0 x -1 1 open", "slip sold 0 01 -1 1 open", "slip sold 0 0 none 1 open", "slip sold 0 0 -01 1 open", "slip sold 0 0 --1 1 open", "slip sold 0 0 - 1 open", "slip sold 0 0 -1 x open", "slip sold 0 0 -1 1..1 open", "slip sold 0 0 -1 1.. open", "slip sold 0 0 -1 ..1 open", "slip sold 0 0 -1 1...2 open", "slip sold 0 0 -1 1..2..3 open", "slip sold 0 0 -1 01..2 open", "slip sold 0 0 -1 1+2 open", "slip sold 0 0 -1 0..1000000000 open", "slip sold 0 0 -1 1 Open", "slip sold 0 0 -1 1 maybe", "slip sold 0 0 -1 1 0", "slip sold 0 0 -1 1 firm", "slip fix 0 0 0 1 true", "slip fix 0 0 0 1 y")...)
	cases = append(cases, shapes(3, one, "sum", "sum cash", "sum cash 0", "sum cash 0 1", "sum cash 1 loose", "sum cash 0 1 loose 1", "sum Cash 0 1 loose", "sum cast 0 1 loose", "sum 0 0 1 loose", "sum sold 0 1 loose", "sum cash x 1 loose", "sum cash 00 1 loose", "sum cash none 1 loose", "sum cash 0 x loose", "sum cash 0 -0 loose", "sum cash 0 1..1 loose", "sum cash 0 1..02 loose", "sum cash 0 1.. loose", "sum cash 0 1 Loose", "sum cash 0 1 sure", "sum cash 0 1 yes", "sum cash 0 1 1")...)
	return append(cases, []parseCase{
		// the bell of the book comes last
		{"sales 3\n", 0, api.Bound}, {"sales -1\n", 0, api.Bound}, {"sales 999999999\n", 0, api.Bound}, {one + "slip sold 5 0 -1 1 open\n", 0, api.Bound}, {one + "slip sold -1 0 -1 1 open\n", 0, api.Bound}, {one + "slip sold 0 4 -1 1 open\n", 0, api.Bound}, {one + "slip sold 0 0 0 1 open\n", 0, api.Bound}, {one + "slip sold 0 0 -1 2..1 open\n", 0, api.Bound}, {one + "slip sold 0 0 -1 0..3 open\n", 0, api.Bound}, {one + "slip sold 0 0 -1 1000 open\n", 0, api.Bound}, {one + "slip sold 0 0 -1 -1..1 open\n", 0, api.Bound}, {one + "slip sold 0 0 -1 1 yes\n", 0, api.Bound}, {one + "slip paid 1 0 -1 1 open\n", 0, api.Bound}, {one + "slip back 0 0 1 1 open\n", 0, api.Missing}, {one + "slip back 0 0 -1 1 open\n", 0, api.Missing}, {one + "slip fix 0 0 1 1 yes\n", 0, api.Missing}, {one + "slip fix 0 0 0 1 yes\nslip fix 0 0 1 1 yes\n", 0, api.Order}, {one + "slip given 0 0 -1 1 open\nslip back 0 0 1 1 open\n", 0, api.Order},
		{one + "slip back 0 0 0 1 open\n", 0, api.Fine}, {one + "slip fix 0 0 0 1..3 no\n", 0, api.Fine}, {one + "slip fix 0 3 0 1 yes\n", 0, api.Fine}, {one + strings.Repeat("slip fix 0 0 0 1 yes\n", 3), 0, api.Count}, {one + strings.Repeat("slip paid 0 0 -1 1 open\n", 5), 0, api.Fine}, {one + strings.Repeat("slip paid 0 0 -1 1 open\n", 6), 0, api.Count},
		{one + "sum cash 1 1 firm\n", 0, api.Bound}, {one + "sum dept 4 1 firm\n", 0, api.Fine}, {one + "sum dept 5 1 firm\n", 0, api.Bound}, {one + "sum clerk 4 1 firm\n", 0, api.Bound}, {one + "sum debt 0 2..1 loose\n", 0, api.Bound}, {one + "sum gifts 0 0..10000 loose\n", 0, api.Bound}, {one + "sum gifts 0 -9999..-1 loose\n", 0, api.Fine}, {one + strings.Repeat("sum cash 0 1 loose\n", 5), 0, api.Fine}, {one + strings.Repeat("sum cash 0 1 loose\n", 6), 0, api.Count},
		// a book without a history is a book
		{one + "sum cash 0 9 firm\n", 0, api.Fine}, {one + "slip back 0 0 0 9 open\n", 0, api.Fine},
	}...)
}

// P6.4: Parse returns the bell of a text, and the first line that is wrong.
func TestParse(t *testing.T) {
	for _, x := range append(placeCases(), fieldCases()...) {
		layer().Parses(t, x.text, x.line, x.l)
	}
}

// P6.4, P0.1: any change of a byte is parsed as a book that is printed like that, or has a bell; only a line that has no form has a number.
func TestParseAnything(t *testing.T) {
	layer().AnyByte(t, "\x00\n +-.0139abdeilnprstxy\xff", textS, textKinds)
}
