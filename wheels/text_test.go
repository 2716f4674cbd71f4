package wheels_test

import (
	"strings"
	"testing"

	"nosale/api"
	"nosale/dice"
	"nosale/wheels"
)

// P1.4: Print writes a book; the lines are those of the chapter.
func TestPrint(t *testing.T) {
	b := api.WheelsBook{
		Most:   2,
		Wheels: []api.WheelsWheel{{Base: 12, Kind: api.WheelsDrops}, {Base: 20, Kind: api.WheelsTight}, {Base: 10, Kind: api.WheelsDoubles}},
		Start:  []int{-1, 0, 9},
		Rings:  []api.WheelsRing{{Keys: []int{11, 19, 0}}, {Keys: []int{1, 0, 0}, Read: []int{0, -1, 9}}, {Keys: []int{0, 0, 0}, Read: []int{}}},
	}
	const want = "wheels 2\nwheel 12 drops\nwheel 20 tight\nwheel 10 doubles\nstart -1+0+9\nring 11+19+0 none\nring 1+0+0 0+-1+9\nring 0+0+0 none\n"
	if text, s := wheels.Print(b); text != want || s != api.Fine {
		t.Errorf("Print: %q, bell %d", text, s)
	}
	b.Start[2] = 10
	if text, s := wheels.Print(b); text != "" || s != api.Bound {
		t.Errorf("Print of a book with a bell: %q, bell %d", text, s)
	}
}

// P1.4, P0.3: what is printed is parsed as it was, with or without its last line feed.
func TestPrintIsParsed(t *testing.T) {
	d := dice.Dice(4)
	books := []api.WheelsBook{book(t, textA), book(t, textB), book(t, textC), book(t, textD), book(t, textE)}
	for i := range 500 {
		b, _ := anyBook(&d, i%2 == 0)
		books = append(books, b)
	}
	layer().PrintIsParsed(t, books...)
}

// P1.4: Parse returns the bell of a text, and the first line that is wrong.
func TestParse(t *testing.T) {
	const one = "wheels 0\nwheel 3 tight\nstart 0\n"
	for _, x := range []struct {
		text string
		line int
		s    api.Bell
	}{
		{one, 0, api.Fine}, {strings.TrimSuffix(one, "\n"), 0, api.Fine}, {one + "ring 1 none\n", 0, api.Fine}, {one + "ring 1 2\nring 0 -1", 0, api.Fine},
		// the length of the text
		{strings.Repeat("w", api.MaxText+1), 0, api.Count}, {strings.Repeat("w", api.MaxText), 1, api.Shape}, {one + strings.Repeat("\n", api.MaxText), 0, api.Count},
		{one + strings.Repeat("ring 0 none\n", 3000), 0, api.Count}, {one + strings.Repeat("x", api.MaxText-len(one)), 4, api.Shape},
		// no line, no start
		{"", 0, api.Shape}, {"wheels 0\n", 2, api.Shape}, {"wheels 0", 2, api.Shape}, {"wheels 0\nwheel 3 tight\n", 3, api.Shape},
		// the place of lines
		{"wheel 3 tight\n", 1, api.Shape}, {"start 0\n", 1, api.Shape}, {"ring 0 none\n", 1, api.Shape}, {"wheels 0\nwheels 0\nstart 0\n", 2, api.Shape}, {one + one, 4, api.Shape}, {one + "start 0\n", 4, api.Shape}, {one + "wheel 3 tight\n", 4, api.Shape}, {one + "ring 1 none\nwheel 3 tight\n", 5, api.Shape}, {one + "ring 1 none\nstart 0\n", 5, api.Shape}, {"wheels 0\nwheel 3 tight\nring 1 none\n", 3, api.Shape}, {"wheels 0\nwheel 3 tight\nring 1 none\nstart 0\n", 3, api.Shape},
		// words
		{"Wheels 0\nwheel 3 tight\nstart 0\n", 1, api.Shape}, {"wheels 0\nwheel 3 Tight\nstart 0\n", 2, api.Shape}, {"wheels 0\nwheel 3 loose\nstart 0\n", 2, api.Shape}, {"wheels 0\nwheel 3 0\nstart 0\n", 2, api.Shape}, {one + "rings 1 none\n", 4, api.Shape}, {one + "#\n", 4, api.Shape},
		// blanks and line feeds
		{"\n", 1, api.Shape}, {"\n" + one, 1, api.Shape}, {one + "\n", 4, api.Shape}, {" " + one, 1, api.Shape}, {"wheels  0\nwheel 3 tight\nstart 0\n", 1, api.Shape}, {"wheels 0 \nwheel 3 tight\nstart 0\n", 1, api.Shape}, {"wheels\t0\nwheel 3 tight\nstart 0\n", 1, api.Shape}, {"wheels 0\r\nwheel 3 tight\nstart 0\n", 1, api.Shape}, {one + "ring  1 none\n", 4, api.Shape}, {one + "ring 1 none ", 4, api.Shape},
		// how many fields
		{"wheels\nwheel 3 tight\nstart 0\n", 1, api.Shape}, {"wheels 0 0\nwheel 3 tight\nstart 0\n", 1, api.Shape}, {"wheels 0\nwheel 3\nstart 0\n", 2, api.Shape}, {"wheels 0\nwheel 3 tight tight\nstart 0\n", 2, api.Shape}, {"wheels 0\nwheel 3 tight\nstart\n", 3, api.Shape}, {"wheels 0\nwheel 3 tight\nstart 0 0\n", 3, api.Shape}, {one + "ring 1\n", 4, api.Shape}, {one + "ring 1 none none\n", 4, api.Shape},
		// numbers and lists
		{"wheels x\nwheel 3 tight\nstart 0\n", 1, api.Shape}, {"wheels 00\nwheel 3 tight\nstart 0\n", 1, api.Shape}, {"wheels -0\nwheel 3 tight\nstart 0\n", 1, api.Shape}, {"wheels +1\nwheel 3 tight\nstart 0\n", 1, api.Shape}, {"wheels 1000000000\nwheel 3 tight\nstart 0\n", 1, api.Shape}, {"wheels 0\nwheel 03 tight\nstart 0\n", 2, api.Shape}, {"wheels 0\nwheel 3 tight\nstart 0+\n", 3, api.Shape}, {one + "ring 01 none\n", 4, api.Shape}, {one + "ring 1+ none\n", 4, api.Shape}, {one + "ring 1 1..2\n", 4, api.Shape}, {one + "ring 1 2\nring 1 x\nring\n", 5, api.Shape},
		// the bell of the book comes last
		{"wheels 999999999\nwheel 3 tight\nstart 0\n", 0, api.Bound}, {"wheels -1\nwheel 3 tight\nstart 0\n", 0, api.Bound}, {"wheels 3\nwheel 3 tight\nstart 0\nring\n", 4, api.Shape}, {"wheels 0\nstart none\n", 0, api.Count}, {"wheels 0\nwheel 3 tight\nstart none\n", 0, api.Count}, {"wheels 0\nwheel 3 tight\nstart -2\n", 0, api.Bound}, {one + "ring none none\n", 0, api.Count}, {one + "ring 3 none\n", 0, api.Bound}, {one + "ring 1 0+0\n", 0, api.Count}, {one + strings.Repeat("ring 0 none\n", 7), 0, api.Count},
		{"wheels 0\n" + strings.Repeat("wheel 3 tight\n", 6) + "start 0\n", 0, api.Count},
	} {
		layer().Parses(t, x.text, x.line, x.s)
	}
}

// P1.4, P0.1: any change of a byte is parsed as a book that is printed like that, or has a bell.
func TestParseAnything(t *testing.T) {
	layer().AnyByte(t, "\x00\n +-019.aswé\xff", textE)
}
