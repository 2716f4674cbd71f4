package build_test

import (
	"strings"
	"testing"

	"nosale/api"
	"nosale/build"
	"nosale/dice"
)

// P5.5: Print writes a book; the lines are those of the chapter.
func TestPrint(t *testing.T) {
	b := api.BuildBook{
		Beat: 99, Places: 2,
		Parts: []api.BuildPart{
			{Name: "cam", Cost: 99, Stock: 3, Time: to(0, 3), Fits: []int{0, 1}}, {Name: "g0", Time: to(20, 20)}, {Name: "pawl", Cost: 7, Stock: 1, Time: to(5, 6), Fits: []int{1}},
		},
		Apart:  []api.BuildPair{pair(0, 0), pair(1, 2)},
		Trials: []api.BuildTrial{trial(to(5, 9), 0, 2), trial(to(8, 8), 0, 2)},
	}
	const want = "build 99 2\npart cam 99 3 0..3 0+1\npart g0 0 0 20 none\npart pawl 7 1 5..6 1\napart 0 0\napart 1 2\ntrial 0+2 5..9\ntrial 0+2 8\n"
	if text, l := build.Print(b); text != want || l != api.Fine {
		t.Errorf("Print: %q, bell %d", text, l)
	}
	if o, line, l := build.Parse(want); show(o) != show(b) || line != 0 || l != api.Fine {
		t.Errorf("Parse: %+v, line %d, bell %d", o, line, l)
	}
	b.Trials[1].Took.High = 100
	if text, l := build.Print(b); text != "" || l != api.Bound {
		t.Errorf("Print of a book with a bell: %q, bell %d", text, l)
	}
	if text, l := build.Print(api.BuildBook{}); text != "" || l != api.Bound {
		t.Errorf("Print of nothing: %q, bell %d", text, l)
	}
}

// P5.5, P0.3: what is printed is parsed as it was, with or without its last line feed.
func TestPrintIsParsed(t *testing.T) {
	d := dice.Dice(5)
	var books []api.BuildBook
	for _, text := range texts() {
		layer().Parses(t, text, 0, api.Fine)
		books = append(books, parse(t, text))
	}
	for i := range 500 {
		b, _ := anyBook(&d, i%2 == 0)
		books = append(books, b)
	}
	layer().PrintIsParsed(t, books...)
}

// parseCase is a text, and what Parse returns.
type parseCase struct {
	text string
	line int
	l    api.Bell
}

// shapes returns cases of texts that begin with one, each of which has a line that is wrong.
func shapes(line int, before string, wrong ...string) []parseCase {
	var all []parseCase
	for _, w := range wrong {
		all = append(all, parseCase{before + w + "\n", line, api.Shape})
	}
	return all
}

// placeCases are those of lines, their words and their places.
func placeCases() []parseCase {
	const one, part, apart, trial = textOne, "part b 1 1 2 0\n", "apart 0 0\n", "trial 0 2\n"
	cases := []parseCase{
		{one, 0, api.Fine}, {strings.TrimSuffix(one, "\n"), 0, api.Fine}, {one + part + apart + trial, 0, api.Fine}, {one + apart + "apart 1 1\n", 0, api.Missing}, {one + trial + trial, 0, api.Fine}, {one + apart, 0, api.Fine}, {one + trial, 0, api.Fine}, {one + part + trial, 0, api.Fine},
		// the length of the text
		{strings.Repeat("b", api.MaxText+1), 0, api.Count}, {strings.Repeat("b", api.MaxText), 1, api.Shape}, {one + strings.Repeat("\n", api.MaxText), 0, api.Count}, {one + strings.Repeat("x", api.MaxText-len(one)), 3, api.Shape}, {one + strings.Repeat(trial, 4990), 0, api.Count}, {one + strings.Repeat(trial, 5010), 0, api.Count}, {one + strings.Repeat(apart, 4990) + "x", 4993, api.Shape},
		// no line
		{"", 0, api.Shape}, {"\n", 1, api.Shape}, {"\n\n", 1, api.Shape},
		// the first line
		{part, 1, api.Shape}, {apart, 1, api.Shape}, {trial, 1, api.Shape}, {"\n" + one, 1, api.Shape}, {part + "build 8 1\n", 1, api.Shape}, {"build 8 1\n", 0, api.Count},
		// a second build
		{one + "build 8 1\n", 3, api.Shape}, {"build 8 1\nbuild 8 1\n" + part, 2, api.Shape}, {one + trial + "build 8 1\n", 4, api.Shape},
		// the order of lines
		{one + apart + part, 4, api.Shape}, {one + trial + part, 4, api.Shape}, {one + trial + apart, 4, api.Shape}, {one + part + trial + apart, 5, api.Shape}, {"build 8 1\n" + apart + part, 3, api.Shape}, {"build 8 1\n" + trial, 0, api.Count},
		// the first one that is wrong decides
		{one + "trial 0 x\n" + part, 3, api.Shape}, {one + trial + part + "x\n", 4, api.Shape}, {"build 0 0\npart x\n", 2, api.Shape}, {"x\nx\n", 1, api.Shape},
	}
	// words, blanks and line feeds
	cases = append(cases, shapes(1, "", "Build 8 1", "builds 8 1", "8 1", " build 8 1", "build  8 1", "build 8 1 ", "build\t8 1")...)
	return append(cases, shapes(3, one, "Part b 1 1 2 0", "parts b 1 1 2 0", "Apart 0 0", "pair 0 0", "Trial 0 2", "trials 0 2", "#", "", "\n"+trial, " trial 0 2", "trial 0 2 ", "trial  0 2", "trial 0  2", "trial 0\t2", "trial 0 2\r", "trial 0 2\x00", "apart 0 0 ", "apart  0 0", "part  b 1 1 2 0", "part b 1 1 2 0 ", "part  1 1 2 0")...)
}

// fieldCases are those of fields.
func fieldCases() []parseCase {
	const one = textOne
	// how many there are, numbers, spans and lists
	cases := shapes(1, "", "build", "build 8", "build 8 1 1", "build x 1", "build 8 x", "build 08 1", "build +8 1", "build 8 -0", "build 8..9 1", "build 8 1+1", "build none 1", "build 1000000000 1", "build 8 1000000000")
	cases = append(cases, shapes(3, one, "part", "part b", "part b 1", "part b 1 1", "part b 1 1 2", "part b 1 1 2 0 0", "part b x 1 2 0", "part b 01 1 2 0", "part b 1..2 1 2 0", "part b 1 x 2 0", "part b 1 +1 2 0", "part b 1 none 2 0", "part b 1 1 x 0", "part b 1 1 02 0", "part b 1 1 2..2 0", "part b 1 1 2.. 0", "part b 1 1 ..2 0", "part b 1 1 2...3 0", "part b 1 1 1..2..3 0", "part b 1 1 2+3 0", "part b 1 1 none 0", "part b 1 1 0..1000000000 0", "part b 1 1 2 x", "part b 1 1 2 00", "part b 1 1 2 0+", "part b 1 1 2 +0", "part b 1 1 2 0++1", "part b 1 1 2 0..1", "part b 1 1 2 None", "part b 1 1 2 0+none", "part b 1 1 2 0,1")...)
	cases = append(cases, shapes(3, one, "apart", "apart 0", "apart 0 0 0", "apart x 0", "apart 0 x", "apart 00 0", "apart 0+0 0", "apart 0 0..1", "apart none 0")...)
	cases = append(cases, shapes(3, one, "trial", "trial 0", "trial 0 2 3", "trial x 2", "trial 0+ 2", "trial 00 2", "trial 0..1 2", "trial 0 x", "trial 0 02", "trial 0 2..2", "trial 0 2..03", "trial 0 2+3", "trial 0 none", "trial 0 0..1000000000")...)
	return append(cases, []parseCase{
		// a name is any field
		{one + "part B 1 1 2 0\n", 0, api.Label}, {one + "part - 1 1 2 0\n", 0, api.Label}, {one + "part none 1 1 2 0\n", 0, api.Fine}, {one + "part 0..1 1 1 2 0\n", 0, api.Label}, {one + "part \xff\x00 1 1 2 0\n", 0, api.Label}, {one + "part abcdefghijk 1 1 2 0\n", 0, api.Label}, {one + "part part 1 1 2 none\n", 0, api.Fine},
		// the bell of the book comes last
		{"build 0 1\npart a 1 1 2 0\n", 0, api.Bound}, {"build 100 1\npart a 1 1 2 0\n", 0, api.Bound}, {"build 8 5\npart a 1 1 2 0\n", 0, api.Bound}, {"build -8 1\npart a 1 1 2 0\n", 0, api.Bound}, {"build 999999999 1\npart a 1 1 2 0\n", 0, api.Bound}, {one + "part a 1 1 2 0\n", 0, api.Twice}, {one + "part b -1 1 2 0\n", 0, api.Bound}, {one + "part b 1 4 2 0\n", 0, api.Bound}, {one + "part b 1 1 2..1 0\n", 0, api.Bound}, {one + "part b 1 1 0..4 0\n", 0, api.Bound}, {one + "part b 1 1 -1..0 0\n", 0, api.Bound}, {one + "part b 1 1 2 0+1\n", 0, api.Missing}, {one + "part b 1 1 2 0+0\n", 0, api.Order}, {one + "part b 1 1 2 -1\n", 0, api.Missing},
		{one + "apart 1 0\n", 0, api.Missing}, {one + "part b 1 1 2 0\napart 1 0\n", 0, api.Order}, {one + "apart 0 0\napart 0 0\n", 0, api.Twice}, {one + "trial none 2\n", 0, api.Count}, {one + "trial 0+0 2\n", 0, api.Count}, {one + "trial 1 2\n", 0, api.Missing}, {one + "trial 0 3..2\n", 0, api.Bound}, {one + "trial 0 0..100\n", 0, api.Bound}, {one + "part b 1 1 2 none\ntrial 1 2\n", 0, api.Shape}, {one + "trial 0 3..2\ntrial 0 x\n", 4, api.Shape},
		{one + strings.Repeat("trial 0 2\n", 4), 0, api.Fine}, {one + strings.Repeat("trial 0 2\n", 5), 0, api.Count}, {one + strings.Repeat("apart 0 0\n", 6), 0, api.Count}, {one + strings.Repeat("part b 1 1 2 0\n", 5), 0, api.Count},
		// a book without a history is a book
		{one + "trial 0 99\n", 0, api.Fine},
	}...)
}

// P5.5: Parse returns the bell of a text, and the first line that is wrong.
func TestParse(t *testing.T) {
	for _, x := range append(placeCases(), fieldCases()...) {
		layer().Parses(t, x.text, x.line, x.l)
	}
}

// P5.5, P0.1: any change of a byte is parsed as a book that is printed like that, or has a bell; only a line that has no form has a number.
func TestParseAnything(t *testing.T) {
	layer().AnyByte(t, "\x00\n +-.0139abdlnoptz\xff", textB, textAll)
}
