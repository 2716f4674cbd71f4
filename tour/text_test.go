package tour_test

import (
	"strings"
	"testing"

	"nosale/api"
	"nosale/dice"
	"nosale/tour"
)

// P9.4: Print writes a book; the lines are those of the chapter.
func TestPrint(t *testing.T) {
	b := api.TourBook{
		Bag: 9, Kinds: 3,
		Places: []string{"a1", "bute", "z"},
		Ways:   []api.TourWay{way(1, 2, 0, 0), way(0, 2, 29, 30)},
		Jobs:   []api.TourJob{job(2, 0, 1, 200, 5, 0, 1), job(0, 30, 30, 0, 0, 0, 0)},
		Notes:  []api.TourNote{note(0, 200), note(60, 61, 0, 1, 0, 1), note(0, 0, 0)},
	}
	const want = "tour 9 3\nplace a1\nplace bute\nplace z\nway 1 2 0\nway 0 2 29..30\njob 2 0..1 200 5+0+1\njob 0 30 0 0+0+0\nnote none 0..200\nnote 0+1+0+1 60..61\nnote 0 0\n"
	if text, l := tour.Print(b); text != want || l != api.Fine {
		t.Errorf("Print: %q, bell %d", text, l)
	}
	if o, line, l := tour.Parse(want); show(o) != show(b) || line != 0 || l != api.Fine {
		t.Errorf("Parse: %+v, line %d, bell %d", o, line, l)
	}
	b.Notes[2].Ways[0] = 2
	if text, l := tour.Print(b); text != "" || l != api.Missing {
		t.Errorf("Print of a book with a bell: %q, bell %d", text, l)
	}
	if text, l := tour.Print(api.TourBook{}); text != "" || l != api.Count {
		t.Errorf("Print without places: %q, bell %d", text, l)
	}
}

// P9.4, P0.3: what is printed is parsed as it was, with or without its last line feed.
func TestPrintIsParsed(t *testing.T) {
	d := dice.Dice(5)
	var books []api.TourBook
	for _, text := range texts() {
		layer().Parses(t, text, 0, api.Fine)
		books = append(books, parse(t, text))
	}
	for i := range 1000 {
		b, _ := anyBook(&d, i%2 == 0)
		books = append(books, b)
	}
	layer().PrintIsParsed(t, books...)
}

// Lines of which texts are made.
const (
	head  = "tour 9 1\n"
	works = "place works\n"
	ayr   = "place ayr\n"
	road  = "way 0 1 3\n"
	mend  = "job 0 1 2 0\n"
	trip  = "note none 0\n"
	one   = head + works
	two   = one + ayr + road
)

// P9.4: Parse returns the first line that is not in its place; the bell of a book comes last.
func TestParsePlaces(t *testing.T) {
	for text, line := range map[string]int{
		"": 0, "\n": 1, "\n\n": 1,
		// the first line
		works: 1, road: 1, mend: 1, trip: 1, "\n" + one: 1, works + head: 1,
		// a second tour
		head + head + works: 2, one + head: 3, two + mend + trip + head: 7,
		// the order of lines
		head + road + works: 3, head + mend + works: 3, head + trip + works: 3, two + ayr: 5, two + mend + ayr: 6, two + trip + works: 6, one + ayr + mend + road: 5, one + ayr + trip + road: 5, two + trip + mend: 6, two + mend + trip + mend: 7,
		// the first one that is wrong decides
		two + "job 0 1 x 0\n" + road: 5, two + mend + road + "x\n": 6, "tour 0 9\nplace\n": 2, "x\nx\n": 1, one + trip + trip + "x": 5, one + "\n": 3, one + trip + "\n" + trip: 4,
		// whole texts
		strings.Repeat("t", api.MaxText): 1, one + strings.Repeat("x", api.MaxText-len(one)): 3, one + strings.Repeat(mend, 4000) + "x": 4003,
	} {
		layer().Parses(t, text, line, api.Shape)
	}
	for text, l := range map[string]api.Bell{
		one: api.Fine, strings.TrimSuffix(one, "\n"): api.Fine, two: api.Fine, two + mend + trip: api.Fine, two + trip: api.Fine, one + mend: api.Fine, one + trip: api.Fine, two + mend + mend + trip + trip: api.Fine,
		// there is no place, or none is reached
		head: api.Count, head + mend: api.Count, head + road: api.Count, one + ayr: api.Short, one + ayr + mend + trip: api.Short, one + road: api.Missing,
		// the length of the text
		strings.Repeat("t", api.MaxText+1): api.Count, one + strings.Repeat("\n", api.MaxText): api.Count, one + strings.Repeat(mend, 4000): api.Count, one + strings.Repeat(mend, 4200): api.Count,
	} {
		layer().Parses(t, text, 0, l)
	}
}

// P9.4: Parse returns the first line that does not have its form.
func TestParseForms(t *testing.T) {
	// words, blanks and line feeds
	layer().WrongLines(t, 1, "", "Tour 9 0", "tours 9 0", "9 0", " tour 9 0", "tour  9 0", "tour 9 0 ", "tour\t9 0", "tour 9 0\r")
	layer().WrongLines(t, 3, one, "Place ayr", "places ayr", "ayr", " place ayr", "place  ayr", "place ayr ", "place\tayr", "Way 0 1 3", "ways 0 1 3", "0 1 3", "jobs 0 1 2 0", "Job 0 1 2 0", "notes none 0", "Note none 0", "#", "", " note none 0", "note none 0 ", "note  none 0", "note none  0", "note none\t0", "job 0 1  2 0", "job 0 1 2 0\x00")
	// how many fields there are, numbers, lists and spans
	layer().WrongLines(t, 1, "", "tour", "tour 9", "tour 9 0 0", "tour x 0", "tour 9 x", "tour 09 0", "tour 9 00", "tour 9 -0", "tour +9 0", "tour 0..9 0", "tour 9 0..1", "tour 9 none", "tour 9+1 0", "tour 1000000000 0")
	layer().WrongLines(t, 3, one, "place", "place ayr bute", "place ayr 0")
	layer().WrongLines(t, 4, one+ayr, "way", "way 0", "way 0 1", "way 0 1 3 3", "way x 1 3", "way 0 x 3", "way 0 1 x", "way 00 1 3", "way 0 01 3", "way 0 1 03", "way 0 1 3..3", "way 0 1 3..", "way 0 1 ..3", "way 0 1 3...4", "way 0 1 3..4..5", "way 0 1 3+4", "way 0 1 none", "way 0..1 1 3", "way 0 0..1 3", "way none 1 3", "way -0 1 3", "way 0 1 -0", "way works ayr 3", "way 0 1 0..1000000000")
	layer().WrongLines(t, 5, two, "job", "job 0", "job 0 1", "job 0 1 2", "job 0 1 2 0 0", "job x 1 2 0", "job 0 x 2 0", "job 0 1 x 0", "job 0 1 2 x", "job 00 1 2 0", "job 0 01 2 0", "job 0 1 02 0", "job 0 1 2 00", "job 0 1..1 2 0", "job 0 1 2..3 0", "job 0..1 1 2 0", "job 0 1 2 0..1", "job 0 1+2 2 0", "job 0 1 2 0+", "job 0 1 2 +0", "job 0 1 2 0++0", "job 0 1 2 0+x", "job 0 1 2 none+0", "job 0 1 2 None", "job 0 none 2 0", "job 0 1 none 0", "job none 1 2 0", "job 0 1 2 -", "job ayr 1 2 0", "job 0 1 2 1000000000")
	layer().WrongLines(t, 5, two, "note", "note 0", "note 0 3 3", "note x 3", "note 0 x", "note 00 3", "note 0 03", "note 0 3..3", "note 0..1 3", "note 0+ 3", "note +0 3", "note 0++0 3", "note 0+00 3", "note 0,0 3", "note 0 3+4", "note 0 none", "note 0 3..", "note 0 ..3", "note none none", "note NONE 3", "note -0 3", "note 0 -0", "note 0 0..1000000000")
}

// P9.4: what has its form is read, and has the bell of its book.
func TestParseBells(t *testing.T) {
	for text, l := range map[string]api.Bell{
		"tour 10 0\n" + works: api.Bound, "tour -1 0\n" + works: api.Bound, "tour 0 4\n" + works: api.Bound, "tour 0 -1\n" + works: api.Bound, "tour 999999999 0\n" + works: api.Bound, "tour 0 -999999999\n" + works: api.Bound, "tour 9 3\n" + works: api.Fine,
		// a name is any field
		one + "place AYR\n": api.Label, one + "place 0..1\n": api.Label, one + "place none\n" + road: api.Fine, one + "place place\n" + road: api.Fine, one + "place \xff\x00\n": api.Label, one + "place abcdefghijk\n": api.Label, one + works: api.Twice, head + strings.Repeat("place -\n", 5): api.Count,
		two + road: api.Twice, one + ayr + "way 1 0 3\n": api.Order, one + ayr + "way 0 2 3\n": api.Missing, one + ayr + "way -1 0 3\n": api.Missing, one + ayr + "way 0 1 29..30\n": api.Fine, one + ayr + "way 0 1 3..2\n": api.Bound, one + ayr + "way 0 1 3..5\n": api.Bound, one + ayr + "way 0 1 30..31\n": api.Bound, one + ayr + "way 0 1 -1..0\n": api.Bound, one + ayr + strings.Repeat("way 9 9 9\n", 6): api.Count,
		two + "job 2 1 2 0\n": api.Missing, two + "job -1 1 2 0\n": api.Missing, two + "job 0 2..1 2 0\n": api.Bound, two + "job 0 1..3 2 0\n": api.Bound, two + "job 0 1 201 0\n": api.Bound, two + "job 0 1 -1 0\n": api.Bound, two + "job 0 1 2 none\n": api.Count, two + "job 0 1 2 0+0\n": api.Count, two + "job 0 1 2 6\n": api.Bound, two + "job 0 1 2 -1\n": api.Bound, two + "job 1 29..30 200 5\n": api.Fine, two + strings.Repeat(mend, 4): api.Fine, two + strings.Repeat(mend, 5): api.Count, "tour 0 0\n" + works + "job 0 1 2 none\n": api.Fine, "tour 0 3\n" + works + "job 0 1 2 0+1+2\n": api.Fine,
		two + "note 1 3\n": api.Missing, two + "note 0+-1 3\n": api.Missing, two + "note 0+0+0+0+0 0..200\n": api.Fine, two + "note 0+0+0+0+0+0 0..200\n": api.Count, two + "note 0 3..2\n": api.Bound, two + "note 0 0..201\n": api.Bound, two + "note 0 -1\n": api.Bound, two + strings.Repeat(trip, 4): api.Fine, two + strings.Repeat(trip, 5): api.Count,
		// a book without a history is a book
		two + "note 0 4\n": api.Fine, two + "note none 1\n": api.Fine,
	} {
		layer().Parses(t, text, 0, l)
	}
}

// P9.4, P0.1: any change of a byte is parsed as a book that is printed like that, or has a bell; only a line that has no form has a number.
func TestParseAnything(t *testing.T) {
	layer().AnyByte(t, "\x00\n +-.0139abcejlnoprtuwy\xff", texts()...)
}
