package evening_test

import (
	"strings"
	"testing"

	"nosale/api"
	"nosale/dice"
	"nosale/evening"
)

// P7.4: Print writes a book; the lines are those of the chapter.
func TestPrint(t *testing.T) {
	b := api.EveningBook{
		Most: 2, Take: 5, Slips: 1, Float: to(99, 100),
		Clerks: []string{"ann", "b0"},
		Hours:  []api.EveningHour{{Said: to(0, 9999), Staff: []int{0, 1}}, {Said: to(7, 7)}, {Staff: []int{1}}},
		Wheels: []api.EveningSlip{{Hour: 2, Error: -999}, {Hour: 0, Error: 3}},
		Counts: []api.EveningCount{count(0, 5, 5), count(2, 0, 12)},
	}
	const want = "evening 2 5 1 99..100\nclerk ann\nclerk b0\nhour 0..9999 0+1\nhour 7 none\nhour 0 1\nwheel 2 -999\nwheel 0 3\ncount 0 5\ncount 2 0..12\n"
	if text, l := evening.Print(b); text != want || l != api.Fine {
		t.Errorf("Print: %q, bell %d", text, l)
	}
	if o, line, l := evening.Parse(want); show(o) != show(b) || line != 0 || l != api.Fine {
		t.Errorf("Parse: %+v, line %d, bell %d", o, line, l)
	}
	b.Counts[1].After = 0
	if text, l := evening.Print(b); text != "" || l != api.Order {
		t.Errorf("Print of a book with a bell: %q, bell %d", text, l)
	}
	if text, l := evening.Print(api.EveningBook{}); text != "" || l != api.Count {
		t.Errorf("Print of nothing: %q, bell %d", text, l)
	}
}

// P7.4, P0.3: what is printed is parsed as it was, with or without its last line feed.
func TestPrintIsParsed(t *testing.T) {
	d := dice.Dice(3)
	var books []api.EveningBook
	for _, text := range texts() {
		layer().Parses(t, text, 0, api.Fine)
		books = append(books, parse(t, text))
	}
	for i := range 500 {
		b, _ := anyBook(&d, i%2 == 0)
		books = append(books, b)
	}
	layer().PrintIsParsed(t, books...)
}

// Lines of which texts are made.
const (
	head  = "evening 1 5 1 9\n"
	clerk = "clerk a\n"
	hour  = "hour 5 none\n"
	wheel = "wheel 0 1\n"
	money = "count 0 14\n"
)

// P7.4: Parse returns the first line that is not in its place; the bell of a book comes last.
func TestParsePlaces(t *testing.T) {
	for text, line := range map[string]int{
		"": 0, "\n": 1, "\n\n": 1,
		// the first line
		clerk: 1, hour: 1, wheel: 1, money: 1, "\n" + head + hour: 1, clerk + head + hour: 1, hour + head: 1,
		// a second evening
		head + head + hour: 2, head + hour + head: 3, head + clerk + hour + wheel + money + head: 6,
		// the order of lines
		head + hour + clerk: 3, head + wheel + hour: 3, head + money + hour: 3, head + money + wheel: 3, head + wheel + clerk: 3, head + money + clerk: 3, head + clerk + hour + money + wheel: 5, head + clerk + hour + wheel + hour: 5, head + clerk + hour + wheel + clerk: 5, head + clerk + hour + clerk: 4,
		// the first one that is wrong decides
		head + hour + "count 0 x\n" + hour: 3, head + hour + money + hour + "x\n": 4, "evening 9 9 9 9\nhour x\n": 2, "x\nx\n": 1, head + hour + money + money + "x": 5,
		// whole texts
		strings.Repeat("e", api.MaxText): 1, head + hour + strings.Repeat("x", api.MaxText-len(head+hour)): 3, head + strings.Repeat(hour, 4100) + "x": 4102,
	} {
		layer().Parses(t, text, line, api.Shape)
	}
	for text, l := range map[string]api.Bell{
		head + hour: api.Fine, strings.TrimSuffix(head+hour, "\n"): api.Fine, head + clerk + hour + wheel + money: api.Fine, head + hour + hour + wheel + wheel + money + "count 1 1\n": api.Fine, head + clerk + "clerk b\n" + hour: api.Fine, head + hour + money: api.Fine, head + hour + wheel: api.Fine,
		// there is no hour
		head: api.Count, head + clerk: api.Count, head + wheel: api.Count, head + money: api.Count,
		// the length of the text
		strings.Repeat("e", api.MaxText+1): api.Count, head + hour + strings.Repeat("\n", api.MaxText): api.Count, head + strings.Repeat(hour, 4100): api.Count, head + strings.Repeat(hour, 4200): api.Count, head + hour + strings.Repeat(money, 4400): api.Count,
	} {
		layer().Parses(t, text, 0, l)
	}
}

// P7.4: Parse returns the first line that does not have its form.
func TestParseForms(t *testing.T) {
	const one = head + clerk + hour
	// words, blanks and line feeds
	layer().WrongLines(t, 1, "", "Evening 1 5 1 9", "evenings 1 5 1 9", "1 5 1 9", " evening 1 5 1 9", "evening  1 5 1 9", "evening 1 5 1 9 ", "evening\t1 5 1 9", "evening 1 5 1 9\r")
	layer().WrongLines(t, 4, one, "Hour 5 none", "hours 5 none", "5 none", "Wheel 0 1", "slip 0 1", "wheels 0 1", "Count 0 14", "money 0 14", "counts 0 14", "#", "", "\n"+money, " count 0 14", "count 0 14 ", "count  0 14", "count 0  14", "count 0\t14", "count 0 14\r", "count 0 14\x00", "hour  5 none", "hour 5 none ", "wheel 0 1 ")
	layer().WrongLines(t, 3, head+clerk, "Clerk b", "clerks b", "clerk", "clerk ", "clerk  b", "clerk b c", "clerk b ", "b")
	// how many fields there are, numbers, spans and lists
	layer().WrongLines(t, 1, "", "evening", "evening 1", "evening 1 5", "evening 1 5 1", "evening 1 5 1 9 9", "evening x 5 1 9", "evening 01 5 1 9", "evening 1 +5 1 9", "evening 1 5 -0 9", "evening 1 5 1 x", "evening 1 5 1 09", "evening 1 5 1 9..9", "evening 1 5 1 9..", "evening 1 5 1 ..9", "evening 1 5 1 1+2", "evening 1 5 1 none", "evening 0..1 5 1 9", "evening none 5 1 9", "evening 1000000000 5 1 9", "evening 1 5 1 0..1000000000")
	layer().WrongLines(t, 4, one, "hour", "hour 5", "hour none", "hour 5 0 0", "hour x none", "hour 05 none", "hour 5..5 none", "hour 5.. none", "hour 5...6 none", "hour 5..6..7 none", "hour 5+6 none", "hour none none", "hour 5 x", "hour 5 0+", "hour 5 +0", "hour 5 0++1", "hour 5 00", "hour 5 0..1", "hour 5 None", "hour 5 0+none", "hour 5 0,1", "hour 0..1000000000 none")
	layer().WrongLines(t, 4, one, "wheel", "wheel 0", "wheel 0 1 1", "wheel x 1", "wheel 0 x", "wheel 00 1", "wheel 0 01", "wheel 0 -0", "wheel 0 +1", "wheel 0 0..1", "wheel none 1", "wheel 0+1 1", "wheel 0 1000000000", "wheel 0 --1", "wheel 0 -")
	layer().WrongLines(t, 4, one, "count", "count 0", "count 0 14 14", "count x 14", "count 0 x", "count 00 14", "count 0 014", "count 0..1 14", "count none 14", "count 0 none", "count 0 14..14", "count 0 14..", "count 0 ..14", "count 0 1+4", "count 0 1.4", "count 0 0..1000000000")
}

// P7.4: what has its form is read, and has the bell of its book.
func TestParseBells(t *testing.T) {
	const one = head + clerk + hour
	for text, l := range map[string]api.Bell{
		"evening 3 5 1 9\n" + hour: api.Bound, "evening 1 6 1 9\n" + hour: api.Bound, "evening 1 5 3 9\n" + hour: api.Bound, "evening -1 5 1 9\n" + hour: api.Bound, "evening 1 5 1 9..8\n" + hour: api.Bound, "evening 1 5 1 10000\n" + hour: api.Bound, "evening 1 5 1 -1..9\n" + hour: api.Bound, "evening 999999999 5 1 9\n" + hour: api.Bound, "evening 1 5 1 0..9999\n" + hour: api.Fine,
		// a name is any field
		head + "clerk A\n" + hour: api.Label, head + "clerk none\n" + hour: api.Fine, head + "clerk 0..1\n" + hour: api.Label, head + "clerk \xff\x00\n" + hour: api.Label, head + "clerk abcdefghijk\n" + hour: api.Label, head + "clerk clerk\n" + hour: api.Fine, head + clerk + clerk + hour: api.Twice, head + strings.Repeat("clerk -\n", 4) + hour: api.Count,
		one + "hour 5..4 none\n": api.Bound, one + "hour -5 none\n": api.Bound, one + "hour 5 1\n": api.Missing, one + "hour 5 -1\n": api.Missing, one + "hour 5 0+0\n": api.Order, one + "hour 0..9999 0\n": api.Fine, one + strings.Repeat(hour, 3): api.Fine, one + strings.Repeat(hour, 4): api.Count,
		one + "wheel 1 1\n": api.Missing, one + "wheel -1 1\n": api.Missing, one + "wheel 0 0\n": api.Bound, one + "wheel 0 -999\n": api.Fine, one + "wheel 0 1000\n": api.Bound, one + strings.Repeat(wheel, 3): api.Fine, one + strings.Repeat(wheel, 4): api.Count,
		one + "count 1 1\n": api.Missing, one + "count 0 2..1\n": api.Bound, one + "count 0 -1\n": api.Bound, one + "count 0 10000\n": api.Bound, one + money + money: api.Count, one + hour + money + money: api.Order, one + hour + "count 1 1\n" + money: api.Order,
		// a book without a history is a book
		one + "count 0 99\n": api.Fine,
	} {
		layer().Parses(t, text, 0, l)
	}
}

// P7.4, P0.1: any change of a byte is parsed as a book that is printed like that, or has a bell; only a line that has no form has a number.
func TestParseAnything(t *testing.T) {
	layer().AnyByte(t, "\x00\n +-.0139abcehlnouw\xff", textE, textAll)
}
