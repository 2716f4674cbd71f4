package lines

import (
	"errors"
	"slices"
	"strings"
	"testing"

	"nosale/api"
)

func TestSplit(t *testing.T) {
	for text, want := range map[string][]string{
		"":         nil,
		"\n":       {""},
		"a":        {"a"},
		"a\n":      {"a"},
		"a\n\n":    {"a", ""},
		"a\nb c\n": {"a", "b c"},
		"a\r\nb":   {"a\r", "b"},
	} {
		if got := Split(text); !slices.Equal(got, want) {
			t.Errorf("Split(%q) = %q, want %q", text, got, want)
		}
	}
}

// word is a line that consists of a word.
type word string

func (w word) Text() string { return string(w) }

func TestWrite(t *testing.T) {
	for want, all := range map[string][]Line{
		"":         nil,
		"a\n":      {word("a")},
		"\n":       {word("")},
		"b c\na\n": {word("b c"), word("a")},
	} {
		if got := Write(all); got != want {
			t.Errorf("Write(%v) = %q, want %q", all, got, want)
		}
	}
}

func TestFollows(t *testing.T) {
	for _, x := range []struct {
		place, before, others int
		want                  bool
	}{
		{0, 0, 0, true}, {1, 0, 0, false}, {3, 0, 0, false},
		// behind the first line
		{0, 0, 1, false}, {1, 0, 1, true}, {3, 0, 1, true},
		// behind others
		{0, 2, 4, false}, {1, 2, 4, false}, {2, 2, 4, true}, {3, 2, 4, true},
	} {
		if got := Follows(x.place, x.before, x.others); got != x.want {
			t.Errorf("Follows(%d, %d, %d) = %v", x.place, x.before, x.others, got)
		}
	}
}

func TestFields(t *testing.T) {
	for line, want := range map[string][]string{
		"":       {""},
		"a":      {"a"},
		"a b c":  {"a", "b", "c"},
		"a  b":   {"a", "", "b"},
		" a":     {"", "a"},
		"a ":     {"a", ""},
		"a\tb c": {"a\tb", "c"},
	} {
		if got := Fields(line); !slices.Equal(got, want) {
			t.Errorf("Fields(%q) = %q, want %q", line, got, want)
		}
	}
}

func TestNumber(t *testing.T) {
	for field, want := range map[string]int{"0": 0, "7": 7, "-1": -1, "10": 10, "999999999": 999999999, "-999999999": -999999999} {
		if n, ok := Number(field); n != want || !ok {
			t.Errorf("Number(%q) = %d, %v", field, n, ok)
		}
	}
	for _, field := range []string{"", "-", "+1", "-0", "00", "01", "-01", "--1", "1-", "1_0", "0x1", " 1", "1 ", "1.0", "x", "1000000000", "-1000000000", strings.Repeat("9", 30), "\u0661"} {
		if n, ok := Number(field); n != 0 || ok {
			t.Errorf("Number(%q) = %d, %v", field, n, ok)
		}
	}
}

func TestList(t *testing.T) {
	for field, want := range map[string][]int{"none": nil, "0": {0}, "4+0+-1": {4, 0, -1}, "1+1": {1, 1}} {
		if list, ok := List(field); !slices.Equal(list, want) || !ok {
			t.Errorf("List(%q) = %v, %v", field, list, ok)
		}
		if got := WriteList(want); got != field {
			t.Errorf("WriteList(%v) = %q, want %q", want, got, field)
		}
	}
	for _, field := range []string{"", "+", "1+", "+1", "1++2", "1+none", "none+1", "None", "1+02", "1,2", "1+1000000000"} {
		if list, ok := List(field); len(list) != 0 || ok {
			t.Errorf("List(%q) = %v, %v", field, list, ok)
		}
	}
}

func TestSpan(t *testing.T) {
	for field, want := range map[string]api.Span{"5": {Low: 5, High: 5}, "5..7": {Low: 5, High: 7}, "7..5": {Low: 7, High: 5}, "0": {}, "-1..0": {Low: -1}, "-3..-2": {Low: -3, High: -2}, "0..999999999": {High: 999999999}} {
		if s, ok := Span(field); s != want || !ok {
			t.Errorf("Span(%q) = %v, %v", field, s, ok)
		}
		if got := WriteSpan(want); got != field {
			t.Errorf("WriteSpan(%v) = %q, want %q", want, got, field)
		}
	}
	for _, field := range []string{"", "..", "5..5", "0..0", "5..", "..5", "5.7", "5...7", "5..7..9", "05..7", "5..07", "5..+7", "5-7", "5..x", "x..7", "none", "5 ..7", "1000000000", "0..1000000000"} {
		if s, ok := Span(field); s != (api.Span{}) || ok {
			t.Errorf("Span(%q) = %v, %v", field, s, ok)
		}
	}
}

func TestReading(t *testing.T) {
	for line, want := range map[string]bool{
		"a 1 2..3":   true,
		"\xff -1 7":  true,
		"a":          false,
		"":           false,
		"a 1":        false,
		"a 1 2..3 4": false,
		" a 1 2..3":  false,
		"a  1 2..3":  false,
		"a 1 2..3 ":  false,
		"a b 2..3":   false,
		"a 1 b":      false,
		"a 1 2..2":   false,
	} {
		r := Read(line)
		word, n, s := r.Word(), r.Number(), r.Span()
		if r.Right() != want {
			t.Errorf("%q: %q, %d, %v, right: %v", line, word, n, s, !want)
		}
	}
	for line, want := range map[string]bool{"none": true, "1": true, "4+0+-1": true, "": false, "1+": false, "x": false, "1 2": false, "1..2": false} {
		r := Read(line)
		if list := r.List(); r.Right() != want || want && WriteList(list) != line {
			t.Errorf("%q: %v, right: %v", line, list, !want)
		}
	}
	r := Read("a 1 2..3")
	if word, n, s := r.Word(), r.Number(), r.Span(); word != "a" || n != 1 || s != (api.Span{Low: 2, High: 3}) {
		t.Errorf("%q, %d, %v", word, n, s)
	}
	for _, line := range []string{"a", "a ", ""} {
		r := Read(line)
		if one, two := r.Word(), r.Word(); r.Right() {
			t.Errorf("%q has two words: %q, %q", line, one, two)
		}
	}
	r.Fail()
	if r.Right() {
		t.Error("a line is right that was said to be wrong")
	}
}

func TestOneOf(t *testing.T) {
	words := []string{"no", "yes", "yes", ""}
	for line, want := range map[string]int{"no": 0, "yes": 1, "No": -1, "": -1, "n": -1, "nono": -1, "yes no": -1} {
		r := Read(line)
		if i := r.OneOf(words...); r.Right() != (want >= 0) || want >= 0 && i != want {
			t.Errorf("%q: %d, right: %v, want %d", line, i, r.Right(), want)
		}
	}
	// a word that is wrong makes the line wrong, whatever follows
	r := Read("perhaps no")
	if one, two := r.OneOf(words...), r.OneOf(words...); one != 0 || two != 0 || r.Right() {
		t.Errorf("%d, %d, right: %v", one, two, r.Right())
	}
}

func TestWrong(t *testing.T) {
	var wrong Wrong
	if err := error(Wrong{3}); !errors.As(err, &wrong) || wrong.Line != 3 || err.Error() != "line 3 is wrong" {
		t.Errorf("%v, line %d", err, wrong.Line)
	}
}

// ranked is a line of a word, the place of which is a number.
type ranked struct {
	word
	place int
}

func (r ranked) Place() int { return r.place }

// readRanked reads a word, and its place.
func readRanked(r *Reading) Placed { return ranked{word(r.Word()), r.Number()} }

// placedTexts are texts, the line of each that is wrong, the bell, and what is added before it.
func placedTexts() []placedText {
	return []placedText{
		{"a 0\nb 1\nc 1\nd 3\n", 0, api.Fine, "abcd"}, {"a 0", 0, api.Fine, "a"}, {"a 0\nb 2", 0, api.Fine, "ab"},
		{"", 0, api.Shape, ""}, {"\n", 1, api.Shape, ""},
		// forms
		{"a x\n", 1, api.Shape, ""}, {"a 0\nb\nc 1\n", 2, api.Shape, "a"}, {"a 0\nb 1 1\n", 2, api.Shape, "a"}, {"a 0\nb 1\n\n", 3, api.Shape, "ab"},
		// places
		{"a 1\n", 1, api.Shape, ""}, {"a 0\nb 0\n", 2, api.Shape, "a"}, {"a 0\nb 2\nc 1\nd x\n", 3, api.Shape, "ab"},
		// the length of the text
		{strings.Repeat("a", api.MaxText), 1, api.Shape, ""}, {strings.Repeat("a", api.MaxText-2) + " 0", 0, api.Fine, strings.Repeat("a", api.MaxText-2)},
	}
}

type placedText struct {
	text string
	line int
	bell api.Bell
	want string
}

func TestReadPlaced(t *testing.T) {
	for _, x := range append(placedTexts(), placedText{strings.Repeat("a", api.MaxText+1), 0, api.Count, ""}) {
		got := ""
		line, l := readPlaced(x.text, readRanked, func(l Placed) { got += l.Text() })
		if line != x.line || l != x.bell || got != x.want {
			t.Errorf("%.40q: line %d, bell %d, %.40q, want %d, %d, %.40q", x.text, line, l, got, x.line, x.bell, x.want)
		}
	}
	// what is wrong when it was read need not be a line
	line, l := readPlaced("a 0\n", readNothing, func(l Placed) { t.Error("a wrong line was added") })
	if line != 1 || l != api.Shape {
		t.Errorf("line %d, bell %d", line, l)
	}
}

func TestReadBook(t *testing.T) {
	for _, x := range []struct {
		text string
		bell api.Bell // of the book
		want string
		line int
		l    api.Bell
	}{
		{"a 0\n", api.Fine, "a", 0, api.Fine}, {"a 0\n", api.Short, "", 0, api.Short}, {"\n", api.Fine, "", 1, api.Shape}, {"a 0\n\n", api.Short, "", 2, api.Shape}, {strings.Repeat("a", api.MaxText+1), api.Short, "", 0, api.Count},
	} {
		got := ""
		b, line, l := ReadBook(x.text, readRanked, func(l Placed) { got += l.Text() }, func() (string, api.Bell) { return got, x.bell })
		if b != x.want || line != x.line || l != x.l {
			t.Errorf("%.40q, bell %d: %q, line %d, bell %d, want %q, %d, %d", x.text, x.bell, b, line, l, x.want, x.line, x.l)
		}
	}
}

// readNothing reads no line.
func readNothing(r *Reading) Placed { r.Fail(); return nil }
